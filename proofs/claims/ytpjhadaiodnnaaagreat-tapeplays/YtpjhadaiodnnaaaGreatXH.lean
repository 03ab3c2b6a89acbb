/-
  Own text: a text as bytes; the document's Read of a disk, and Head of a reel.
  Own text: what lasts of a file is a beginning of what is told, whatever is done (in plain words).
  Own text: append of many values of one cell each; the document's tape in memory.
  Own text: tells of two tapes alike, face of two disks alike.
  Own text: Save of the document's tape.
  Own text: Open of the document's tape.
-/
import Derived.Test.YtpjhadaiodnnaaaGreatXG
import Derived.Test.YtpjhadaiodnnaaaGreatXF
import Derived.Test.YtpjhadaiodnnaaaGreatXE
section
namespace Go.Proofs.YtpjhadaiodnnaaaGreat.M
open Go.ChangeShapes Go.WideShapes Go.ChangeAt Go.RowKit
set_option linter.unusedSimpArgs false

theorem below_bytes (w : World) (e : TypeId) (s : ByteArray) : Below w.heap.size w (Lib.bytesWorld w e s) :=
  ⟨rfl, rfl, rfl, by rw [Lib.bytesWorld_size]; omega, fun j hj => Lib.bytesWorld_at_old w e s j hj⟩

/-- A text as bytes: a new row. -/
theorem str_conv (w : World) (xs : List Int) (hx : By xs) : ∃ gc w', (convert 9 40 (.string (strOfNums xs))).run Tryz.prog w = .ok (.slice (some ⟨w.heap.size, 0, none⟩) xs.length gc) w' ∧ Rd .u8 w' (some ⟨w.heap.size, 0, none⟩) xs.length gc xs ∧ Below w.heap.size w w' := by
  have hcv := Lib.run_convert_string_bytes (P := Tryz.prog) w 9 40 5 (strOfNums xs) Tryz.underlying9 Tryz.underlying40 Tryz.underlying5
  rw [strOfNums_size] at hcv
  refine ⟨_, _, hcv, ⟨rfl, grownCap_ge _ _ _ _, (fun e => by cases e), fun _ => ⟨w.heap.size, 0, rfl, fun j hj => ?_⟩⟩, below_bytes w 5 (strOfNums xs)⟩
  rw [Nat.zero_add, Lib.bytesWorld_cell w _ _ j (by rw [strOfNums_size]; exact hj), strOfNums_data]
  rw [List.getD_eq_getElem?_getD, List.getD_eq_getElem?_getD, List.getElem?_map, List.getElem?_eq_getElem hj]
  have h1 := hx xs[j] (List.getElem_mem hj)
  simp only [Option.map_some, Option.getD_some, UInt8.toNat_ofNat']
  have e : ((xs[j].toNat % 2 ^ 8 : Nat) : Int) = xs[j] := by omega
  rw [e]

set_option maxRecDepth 20000 in
theorem rRead_by (w : World) (g : Nat) (m : PD) (k : Sl) (h : RC w g m k) (hw : m.down = false) (i : Nat) (hi : i < 8) (hx : By (m.f i).told) :
    Calls Tryz.prog 33 #[.pointer (some ⟨g, 0, none⟩), .int .i64 i] w fun e w' => ∃ p' c', e = .returned (.tuple #[.slice p' (m.f i).told.length c', .int .i64 0]) ∧ Rd .u8 w' p' (m.f i).told.length c' (m.f i).told ∧ Below w.heap.size w w' ∧ (∀ x, p' = some x → w.heap.size ≤ x.block) := by
  have hM := rmay_any w g m k h i
  rw [hw, if_neg (show ¬ (false = true) by decide), if_neg (by omega)] at hM
  have c0 := h.told hi
  clear h
  generalize (m.f i).told = xs at *
  obtain ⟨gc, wb, hcv, hrd, hbb⟩ := str_conv w xs hx
  go_enter Tryz.func33, Tryz.ntmps33
  go_wp2_with fail
  refine hM.mono ?_
  rintro e w1 ⟨rfl, rfl⟩
  go_wp2_with fail
  go_ret2
  exact ⟨_, gc, rfl, hrd, hbb, fun x e => by cases e; exact Nat.le_refl _⟩

theorem Rd.two (k : IntKind) (w : World) (e : TypeId) (a b : Int) : Rd k (w.alloc (.cells #[.int k a, .int k b] e)) (some ⟨w.heap.size, 0, none⟩) 2 2 [a, b] := Rd.list k w e [a, b]

set_option maxRecDepth 20000 in
set_option maxHeartbeats 1000000 in
theorem rHead_ok (w : World) (gen many : Nat) (base : List Int) (hg : gen ≤ 1099511627776) (hm : many ≤ 1000000) (hb : base.length ≤ 8176 ∧ By base) :
    Calls Tryz.prog 43 #[.int .i64 gen, .int .i64 many, .string (strOfNums base)] w fun e w' => ∃ p' n' c', e = .returned (.tuple #[.slice p' n' c', .int .i64 0]) ∧ Ow .u8 5 w' w.heap.size p' n' c' (sealL (hdR gen many base)) ∧ Below w.heap.size w w' := by
  have k1 : IntKind.u64.wrap (gen : Int) = gen := by rw [IntKind.wrap_u64]; omega
  have k2 : IntKind.u64.wrap (many : Int) = many := by rw [IntKind.wrap_u64]; omega
  have hWd : Wd [(gen : Int), (many : Int)] := by
    intro x hx
    simp only [List.mem_cons, List.not_mem_nil, or_false] at hx
    rcases hx with rfl | rfl <;> omega
  have hba := below_alloc w (.cells #[.int .u64 (gen : Int), .int .u64 (many : Int)] 121)
  have hR := Rd.two .u64 w 121 (gen : Int) (many : Int)
  have g2 := rput_any none 0 0 [] _ 2 2 [(gen : Int), (many : Int)] _ (Rd.empty _ _ _ _ (fun _ => rfl)) hR hWd (by omega) (by omega)
  simp only [Nat.zero_add, List.nil_append] at g2
  obtain ⟨L, HL⟩ : ∃ L, Hid (putAll [(gen : Int), (many : Int)] = L) := ⟨_, rfl⟩
  rw [HL.out] at g2
  have HH : Hid (hdR gen many base = L ++ (putL base.length ++ base)) := by
    show _ = _
    rw [← HL.out]
    unfold hdR
    simp [putAll]
  obtain ⟨hh1, hh2⟩ := hdR_ok hg hm hb
  rw [HH.out] at hh1 hh2 ⊢
  have hs0 := hba.size
  clear hR hWd
  go_enter Tryz.func43, Tryz.ntmps43
  go_wp2_with fail
  refine g2.mono ?_
  rintro r w2 ⟨p2, c2, rfl, ho, hb3⟩
  clear g2
  have hB3 := hba.trans (hb3.mono hs0)
  obtain ⟨gc, w3, hcv, hrd, hbb⟩ := str_conv w2 base hb.2
  have hB4 := hB3.trans (hbb.mono hB3.size)
  have hl0 := hh2
  rw [List.length_append, List.length_append] at hl0
  have g3 := rbytes_any p2 _ c2 L _ base.length gc base w3 (ho.rd.below' hbb) hrd (by omega) (by omega)
  clear hrd hba hb3 ho
  go_wp2_with fail
  refine g3.mono ?_
  rintro r w4 ⟨p4, c4, rfl, ho4, hb4⟩
  clear g3 hcv
  have hB5 := hB4.trans (hb4.mono hB4.size)
  have g4 := rseal_any p4 _ c4 _ w4 ho4.rd hh1 (by omega)
  clear ho4
  go_wp2_with fail
  refine g4.mono ?_
  rintro r w5 ⟨p5, n5, c5, rfl, ho5, hb5⟩
  clear g4
  go_wp2_with fail
  go_ret2
  exact ⟨p5, n5, c5, rfl, ho5.lower hB5.size, hB5.trans (hb5.mono hB5.size)⟩

end Go.Proofs.YtpjhadaiodnnaaaGreat.M
end

section
namespace Go.Proofs.YtpjhadaiodnnaaaGreat.M
open Go.ChangeShapes Go.WideShapes Go.ChangeAt Go.RowKit
set_option linter.unusedSimpArgs false

def PF.pre (x : PF) : Prop := x.cl = false → x.lasts <+: x.told

theorem upP_pre {f : Nat → PF} {i : Nat} {x : PF} (h : ∀ j, j < 8 → (f j).pre) (hx : x.pre) : ∀ j, j < 8 → (upP f i x j).pre := fun j hj => by
  unfold upP
  split
  · exact hx
  · exact h j hj

theorem crash_pre (x : PF) (k : Int) : (x.crash k).pre := fun _ => List.prefix_refl _

theorem PD.pre.fall (m : PD) (keep : List Int) : (m.fall keep).pre := fun i hi => by
  show (if i < 8 then (m.f i).crash (keepAt keep i) else m.f i).cl = false → (if i < 8 then (m.f i).crash (keepAt keep i) else m.f i).lasts <+: (if i < 8 then (m.f i).crash (keepAt keep i) else m.f i).told
  rw [if_pos hi]
  exact crash_pre _ _

theorem PD.pre.act {m : PD} {n : Nat} {X : Nat → Nat → PF} (h : ∀ n1, ∀ j, j < 8 → (X n1 j).pre) : (m.act n X).pre := by
  unfold PD.act
  split
  · exact h n
  · split
    · exact PD.pre.fall _ _
    · exact h n

theorem PD.pre.clearAt {m : PD} (h : m.pre) (i : Nat) : (m.clearAt i).pre := PD.pre.act fun _ => upP_pre h (fun e => by cases e)

theorem PD.pre.syncAt {m : PD} (h : m.pre) (i : Nat) : (m.syncAt i).pre := PD.pre.act fun _ => upP_pre h (fun _ => List.prefix_refl _)

theorem PD.pre.putAt {m : PD} (h : m.pre) {i : Nat} (hi : i < 8) (b : List Int) : (m.putAt i b).pre := PD.pre.act fun _ => upP_pre h (fun e => (h i hi e).trans (List.prefix_append _ _))

theorem PD.pre.ptM {m : PD} (h : m.pre) {i : Nat} (hi : i < 8) (bs : List Int) : (ptM m i bs).1.pre := by
  unfold M.ptM
  split
  · exact h
  · exact h.putAt hi bs

theorem PD.pre.wrM {m : PD} (h : m.pre) {i : Nat} (hi : i < 8) (bs : List Int) : (wrM m i bs).1.pre := by
  unfold M.wrM
  split
  · exact h.clearAt i
  · split
    · exact h.clearAt i
    · split
      · exact (h.clearAt i).putAt hi bs
      · exact ((h.clearAt i).putAt hi bs).syncAt i

theorem PD.pre.svT {m : PD} {t : TP} (h : m.pre) (hf : t.file ≤ 1) (base : List Int) (recs : List (List Int)) : (svT m t base recs).2.1.pre := by
  unfold M.svT
  split
  · exact h
  · split
    · exact h
    · exact h.wrM (by omega) _

theorem PD.pre.opM {m : PD} (h : m.pre) (hf : (cnt m).1 ≤ 1) : (opM m).2.1.pre := by
  unfold M.opM
  split
  · exact h
  · exact h.svT hf _ _

end Go.Proofs.YtpjhadaiodnnaaaGreat.M
end

section
namespace Go.Proofs.YtpjhadaiodnnaaaGreat.M
open Go.ChangeShapes Go.WideShapes Go.ChangeAt Go.RowKit
set_option linter.unusedSimpArgs false

section
variable {P : Program} (w : World)

/-- append(s, x...): s the call's own (or empty with no room), x whatever can be read. -/
theorem run_appVs (t ty e : TypeId) (i : TypeInfo) (z : Value) (by_ : Nat) (ht : P.underlying t = some (.slice e)) (hi : P.info? e = some i) (hz : i.zero = some z) (hsize : i.size = 1) (hby : i.bytes = by_) (hzs : z.cells.size = 1)
    {B : Nat} {p q : Option Addr} {n c m d : Nat} {vs us : List Value} (ho : OwV e w B p n c vs) (hr : RdV w q m d us) (h1 : ∀ u ∈ us, u.oneCell' = true) (hb : (n + m) * by_ ≤ 140737488355328) (h63 : n + m ≤ maxLen) (hB : B ≤ w.heap.size) :
    ∃ p' c' w', (Builtin.append_ #[t, t] ty #[.slice p n c, .slice q m d]).run P w = .ok (.slice p' (n + m) c') w' ∧ OwV e w' B p' (n + m) c' (vs ++ us) ∧ Below B w w' := by
  by_cases hm : m = 0
  · subst hm
    have : us = [] := List.length_eq_zero_iff.1 hr.len
    subst this
    exact ⟨p, c, w, run_app_zero w t ty e i ht hi p q n c d ho.cap, by simpa using ho, Below.refl _ _⟩
  · have hm0 : 0 < m := Nat.pos_of_ne_zero hm
    obtain ⟨b, o, rfl, hc⟩ := hr.cells hm0
    have hn : ∀ j u, us[j]? = some u → w.cell? ((⟨b, o, none⟩ : Addr).add j) = some u := by
      intro j u hj
      have hj' : j < us.length := by
        rcases Nat.lt_or_ge j us.length with h | h
        · exact h
        · rw [List.getElem?_eq_none h] at hj; cases hj
      rw [Addr.add_lit, hc j (by rw [← hr.len]; exact hj'), List.getD_eq_getElem?_getD, hj]
      rfl
    have hl : us.length = m * 1 := by rw [hr.len, Nat.mul_one]
    have fin : ∀ v' w', w'.ownsRow B e 1 v' (n + m) (vs ++ us) → ∃ p' c', v' = .slice p' (n + m) c' ∧ OwV e w' B p' (n + m) c' (vs ++ us) := by
      intro v' w' h
      exact OwV.of_owns h (by rw [List.length_append, ho.len, hr.len]) (by omega)
    have own_case : w.ownsRow B e 1 (.slice p n c) n vs → ∃ p' c' w', (Builtin.append_ #[t, t] ty #[.slice p n c, .slice (some ⟨b, o, none⟩) m d]).run P w = .ok (.slice p' (n + m) c') w' ∧ OwV e w' B p' (n + m) c' (vs ++ us) ∧ Below B w w' := by
      intro hown
      obtain ⟨v', w', h2, h3, h4, _⟩ := run_append_own (P := P) w B t ty e i z 1 by_ ht hi hz hsize hby hzs (by decide) _ n _ hown ⟨b, o, none⟩ m d _ hl hn h1 h63 hb hB
      obtain ⟨p', c', rfl, h5⟩ := fin v' w' h3
      exact ⟨p', c', w', h2, h5, (Below.refl _ _).grown h4 hB fun g hg => (hown.lt g hg).1⟩
    rcases ho.own with ⟨rfl, rfl⟩ | hown
    · have hvs : vs = [] := List.length_eq_zero_iff.1 ho.len
      subst hvs
      cases p with
      | none => exact own_case (World.ownsRow_nil _ _ _ _)
      | some pa =>
        obtain ⟨v', w', h2, h3, h4⟩ := run_append_arg_grows (P := P) w t ty e i z 1 by_ ht hi hz hsize hby hzs (by decide) pa 0 0 [] (by simp) (by simp) ⟨b, o, none⟩ m d _ hl hn (by omega) h63 hb
        obtain ⟨p', c', rfl, h5⟩ := fin v' w' (by simpa using ownsRow_lower h3 hB)
        exact ⟨p', c', w', h2, h5, (Below.refl _ _).grown h4 hB fun g hg => by cases hg⟩
    · exact own_case hown

/-- The same as a law for the walk. -/
theorem wpList_appVs {ops : Array Oper} {rest : List Oper} {o : Oper} {a : Act} {Q : Exit → Act → World → Prop} (hgd : o.guard = none) (s x : Operand) (t : TypeId)
    (hop : o.op = .call { callee := .builtin .append, args := #[s, x], argTypes := #[t, t] })
    (e : TypeId) (i : TypeInfo) (z : Value) (by_ : Nat) (ht : P.underlying t = some (.slice e)) (hi : P.info? e = some i) (hz : i.zero = some z) (hsize : i.size = 1) (hby : i.bytes = by_) (hzs : z.cells.size = 1)
    (B : Nat) (p : Option Addr) (n c : Nat) (vs : List Value) (hs : a.eval s = .slice p n c) (ho : OwV e w B p n c vs)
    (q : Option Addr) (m d : Nat) (us : List Value) (hx : a.eval x = .slice q m d) (hr : RdV w q m d us) (h1 : ∀ u ∈ us, u.oneCell' = true) (hb : (n + m) * by_ ≤ 140737488355328) (h63 : n + m ≤ maxLen) (hB : B ≤ w.heap.size)
    (h : ∀ p' c' w', OwV e w' B p' (n + m) c' (vs ++ us) → Below B w w' → wpList P ops Q rest (a.put o.dst (.slice p' (n + m) c')) w') : wpList P ops Q (o :: rest) a w := by
  refine wpList_plain hgd fun K hK => ?_
  obtain ⟨p', c', w', hrun, h2, h3⟩ := run_appVs (P := P) w t o.type e i z by_ ht hi hz hsize hby hzs ho hr h1 hb h63 hB
  unfold Oper.wp
  simp [execOp, hop, resolve, invoke, builtin, hs, hx, hrun, Result.andThen]
  exact hK _ _ (h p' c' w' h2 h3)

end

theorem strs_one (xss : List (List Int)) : ∀ u ∈ strs xss, u.oneCell' = true := fun u hu => by
  unfold strs at hu
  obtain ⟨x, _, rfl⟩ := List.mem_map.1 hu
  rfl

theorem strs_len (xss : List (List Int)) : (strs xss).length = xss.length := by unfold strs; rw [List.length_map]

theorem strs_getD {xss : List (List Int)} {k : Nat} (h : k < xss.length) : (strs xss).getD k undef = .string (strOfNums (xss.getD k [])) := by
  unfold strs
  rw [List.getD_eq_getElem?_getD, List.getD_eq_getElem?_getD, List.getElem?_map, List.getElem?_eq_getElem h]
  rfl

/-- The document's tape t in block gx, over the disk in block g. -/
structure RT (w : World) (g gx : Nat) (t : TP) (p : Option Addr) (c : Nat) : Prop where
  blk : At 87 w gx #[.pointer (some ⟨g, 0, none⟩), .int .i64 t.r.gen, .string (strOfNums t.r.base), .slice p t.r.recs.length c, .int .i64 t.file, .int .i64 t.kept]
  rcs : RdV w p t.r.recs.length c (strs t.r.recs)
  fr : ∀ x, p = some x → 0 < t.r.recs.length → x.block ≠ g ∧ x.block ≠ gx
  ne : gx ≠ g

/-- It, and its disk. -/
structure RX (w : World) (g gx : Nat) (F : Nat → Prop) (m : PD) (t : TP) (k : Sl) (p : Option Addr) (c : Nat) : Prop where
  rd : RD w g m k
  rt : RT w g gx t p c
  kx : ∀ x, k.p = some x → 0 < k.n → x.block ≠ gx
  fk : ∀ x, k.p = some x → 0 < k.n → F x.block
  fp : ∀ x, p = some x → 0 < t.r.recs.length → F x.block

theorem RT.ch {S : Nat → Prop} {w w' : World} {g gx : Nat} {t : TP} {p : Option Addr} {c : Nat} (h : RT w g gx t p c) (hc : Ch S w w') (hx : ¬ S gx) (hs : ∀ x, p = some x → 0 < t.r.recs.length → ¬ S x.block) : RT w' g gx t p c :=
  ⟨h.blk.ch hc hx, h.rcs.ch0 hc hs, h.fr, h.ne⟩

theorem RT.below {w w' : World} {g gx : Nat} {t : TP} {p : Option Addr} {c : Nat} (h : RT w g gx t p c) (hb : Below w.heap.size w w') : RT w' g gx t p c := h.ch (Ch.of_below hb (fun _ => False)) (fun e => e) (fun _ _ _ e => e)

theorem RX.below {w w' : World} {g gx : Nat} {F : Nat → Prop} {m : PD} {t : TP} {k : Sl} {p : Option Addr} {c : Nat} (h : RX w g gx F m t k p c) (hb : Below w.heap.size w w') : RX w' g gx F m t k p c := ⟨h.rd.below hb, h.rt.below hb, h.kx, h.fk, h.fp⟩

/-- Behind what is done to the disk. -/
theorem RX.disk {w w' : World} {g gx : Nat} {F : Nat → Prop} {m m' : PD} {t : TP} {k : Sl} {p : Option Addr} {c : Nat} (h : RX w g gx F m t k p c) (hF : ∀ j, w.heap.size ≤ j → F j) (ha : RAfter g k w w' m') : ∃ k', RX w' g gx F m' t k' p c ∧ Ch (fun j => j = g) w w' := by
  obtain ⟨k', h1, h2, h3⟩ := ha
  refine ⟨k', ⟨h1, h.rt.ch h3 h.rt.ne (fun x e h0 => (h.rt.fr x e h0).1), fun x e h0 => ?_, fun x e h0 => ?_, h.fp⟩, h3⟩
  · rcases h2 x e h0 with e2 | e2
    · subst e2; exact h.kx x e h0
    · have := h.rt.blk.lt; omega
  · rcases h2 x e h0 with e2 | e2
    · subst e2; exact h.fk x e h0
    · exact hF _ e2

end Go.Proofs.YtpjhadaiodnnaaaGreat.M
end

section
namespace Go.Proofs.YtpjhadaiodnnaaaGreat.M
open Go.ChangeShapes Go.WideShapes Go.ChangeAt Go.RowKit
set_option linter.unusedSimpArgs false

set_option maxRecDepth 20000 in
theorem tells_nil (w : World) : Calls Tryz.prog 10 #[.pointer none, .pointer none] w fun e w' => e = .returned (.bool true) ∧ Below w.heap.size w w' := by
  go_enter Tryz.func10, Tryz.ntmps10
  go_wp2_with fail
  go_ret
  exact ⟨rfl, Below.refl _ _⟩

theorem Kept_S (w : World) (L a g gt : Nat) (m : PD) (t : TP) (hT : TSo w L a g gt m t) :
    Calls Tryz.prog 26 #[.pointer (some ⟨gt, 0, none⟩)] w fun e w' => e = .returned (.int .i64 t.kept) ∧ Below w.heap.size w w' := by
  obtain ⟨own, d, pb, nb, cb, pr, cr, vs, Bv, h1, h2, h3, h4, h5⟩ := hT
  exact TKept_ok w gt g t.kept (h2.blk.cell 0) (h2.blk.cell 2)

theorem Len_S (w : World) (L a g gt : Nat) (m : PD) (t : TP) (hT : TSo w L a g gt m t) :
    Calls Tryz.prog 30 #[.pointer (some ⟨gt, 0, none⟩)] w fun e w' => e = .returned (.int .i64 t.r.recs.length) ∧ Below w.heap.size w w' := by
  obtain ⟨own, d, pb, nb, cb, pr, cr, vs, Bv, h1, h2, h3, h4, h5⟩ := hT
  exact TLen_ok w gt g pr _ cr (h2.blk.cell 0) (h2.blk.cell 5)

set_option maxRecDepth 20000 in
set_option maxHeartbeats 4000000 in
theorem tells_same (w : World) (L a g gt gy gx : Nat) (m : PD) (t : TP) (hT : TSo w L a g gt m t) (p : Option Addr) (c : Nat) (hX : RT w gy gx t p c) (hl : t.r.base.length ≤ 1099511627776) (hfew : t.r.recs.length ≤ 1099511627776) (hrec : ∀ d ∈ t.r.recs, d.length ≤ 1099511627776) :
    Calls Tryz.prog 10 #[.pointer (some ⟨gt, 0, none⟩), .pointer (some ⟨gx, 0, none⟩)] w fun e w' => e = .returned (.bool true) ∧ Below w.heap.size w w' := by
  have HT : Hid (∀ W, Bl w W → TSo W L a g gt m t) := fun W h => hT.below (Bl.out' h)
  have HLb : Hid (t.r.base.length ≤ 1099511627776) := hl
  have HFw : Hid (t.r.recs.length ≤ 1099511627776) := hfew
  have HRc : Hid (∀ d ∈ t.r.recs, d.length ≤ 1099511627776) := hrec
  obtain ⟨nB, HnB⟩ : ∃ z, Hid (z = t.r.base.length) := ⟨_, rfl⟩
  obtain ⟨nW, HnW⟩ : ∃ z, Hid (z = t.r.recs.length) := ⟨_, rfl⟩
  obtain ⟨sB, HSB⟩ : ∃ z, Hid (z = strOfNums t.r.base) := ⟨_, rfl⟩
  obtain ⟨nK, HnK⟩ : ∃ z, Hid (z = t.kept) := ⟨_, rfl⟩
  have HC2 : Hid (w.cell? ⟨gx, 2, none⟩ = some (.string sB)) := by rw [HSB.out]; exact hX.blk.cell 2
  have HC3 : Hid (w.cell? ⟨gx, 3, none⟩ = some (.slice p nW c)) := by rw [HnW.out]; exact hX.blk.cell 3
  have HC5 : Hid (w.cell? ⟨gx, 5, none⟩ = some (.int .i64 nK)) := by rw [HnK.out]; exact hX.blk.cell 5
  have HRV : Hid (∀ W, Bl w W → RdV W p nW c (txt (txb t.r.recs))) := fun W h => by rw [HnW.out, ← strs_txb]; exact hX.rcs.below (Bl.out' h)
  clear hT hX hl hfew hrec
  have hS8 : Bl w w.drew := (Below.refl _ _).drew
  go_enter Tryz.func10, Tryz.ntmps10
  go_wp2_with fail
  refine wp_region_dyn [0, 3, 4, 5, 6, 7, 8, 9, 11, 12, 13, 14, 16, 17, 18, 20, 21, 22, 23, 24, 25, 26, 27, 29, 30, 31, 32, 33, 34, 35, 36] (Bl w) (Bl w) (by kernel_rfl) hS8 ?_
  clear hS8
  refine wpDyn_take ?v0 (Bl.stays w) (fun _ h => h) (i := 0) rfl (by kernel_rfl) (by kernel_rfl) (by kernel_rfl) (by kernel_rfl) (by kernel_rfl) (fun _ _ _ h => h) (Gives.value (by rfl) ?y0) ?r0
  case y0 => (intro w' hSw; (try dsimp only at hSw); go_simp; try with_reducible rfl)
  (try simp only [Act.put, List.getElem_toArray, List.getElem_cons_zero, List.getElem_cons_succ, List.setIfInBounds_toArray, List.set_cons_zero, List.set_cons_succ])
  refine wpDyn_take ?v3 (Bl.stays w) (fun _ h => h) (i := 3) rfl (by kernel_rfl) (by kernel_rfl) (by kernel_rfl) (by kernel_rfl) (by kernel_rfl) (fun _ _ _ h => h) (Gives.value (by rfl) ?y3) ?r3
  case y3 => (intro w' hSw; (try dsimp only at hSw); go_simp; try with_reducible rfl)
  (try simp only [Act.put, List.getElem_toArray, List.getElem_cons_zero, List.getElem_cons_succ, List.setIfInBounds_toArray, List.set_cons_zero, List.set_cons_succ])
  refine wpDyn_take ?v4 (Bl.stays w) (fun _ h => h) (i := 4) rfl (by kernel_rfl) (by kernel_rfl) (by kernel_rfl) (by kernel_rfl) (by kernel_rfl) (fun _ _ _ h => h) (Gives.value (by rfl) ?y4) ?r4
  case y4 => (intro w' hSw; (try dsimp only at hSw); go_simp; try with_reducible rfl)
  (try simp only [Act.put, List.getElem_toArray, List.getElem_cons_zero, List.getElem_cons_succ, List.setIfInBounds_toArray, List.set_cons_zero, List.set_cons_succ])
  refine wpDyn_take ?v5 (Bl.stays w) (fun _ h => h) (i := 5) rfl (by kernel_rfl) (by kernel_rfl) (by kernel_rfl) (by kernel_rfl) (by kernel_rfl) (fun _ _ _ h => h) (Gives.value (by rfl) ?y5) ?r5
  case y5 => (intro w' hSw; (try dsimp only at hSw); go_simp; try with_reducible rfl)
  (try simp only [Act.put, List.getElem_toArray, List.getElem_cons_zero, List.getElem_cons_succ, List.setIfInBounds_toArray, List.set_cons_zero, List.set_cons_succ])
  refine wpDyn_take ?v6 (Bl.stays w) (fun _ h => h) (i := 6) rfl (by kernel_rfl) (by kernel_rfl) (by kernel_rfl) (by kernel_rfl) (by kernel_rfl) (fun _ _ _ h => h) (Gives.value (by rfl) ?y6) ?r6
  case y6 => (intro w' hSw; have hcl := cell_below (Bl.out' hSw) HC2.out; clear hSw; go_simp; try with_reducible rfl)
  (try simp only [Act.put, List.getElem_toArray, List.getElem_cons_zero, List.getElem_cons_succ, List.setIfInBounds_toArray, List.set_cons_zero, List.set_cons_succ])
  refine wpDyn_ready (rs := [1]) (by kernel_rfl) (by simp) (AllDyn.cons rfl (fun V hV K hK => ?_) AllDyn.nil)
  rw [if_pos (by rfl)]
  have hC := Base_S V L a g gt m t (HT.out V hV) HLb.out
  rw [← HnB.out] at hC
  refine wp_enterX 29 #[.pointer (some ⟨gt, 0, none⟩)] (by first | (go_simp; done) | (go_simp; rfl)) (fun v V' => ∃ p' c', v = .slice p' nB c' ∧ Rd .u8 V' p' nB c' t.r.base ∧ Below V.heap.size V V') (hC.mono fun e V' ⟨⟨p', c', h1, h2, _⟩, h3⟩ => ⟨_, h1, p', c', rfl, h2, h3⟩) ?_
  rintro v V1 ⟨p1, c1, rfl, hR, hb⟩
  refine hK.out (fun W => Bl w W ∧ Rd .u8 W p1 nB c1 t.r.base) _ _ (fun _ _ h hb => ⟨Bl.stays w _ _ h.1 hb, h.2.below' hb⟩) (fun _ _ h => h.1) ⟨Bl.stays w _ _ hV hb, hR⟩ ?_
  clear hK K hV hC hR hb
  (try simp only [Act.put, List.getElem_toArray, List.getElem_cons_zero, List.getElem_cons_succ, List.setIfInBounds_toArray, List.set_cons_zero, List.set_cons_succ])
  refine wpDyn_ready (rs := [2]) (by kernel_rfl) (by simp) (AllDyn.cons rfl (fun V hV K hK => ?_) AllDyn.nil)
  rw [if_pos (by rfl)]
  have hcv : (convert 40 9 (.slice p1 nB c1)).run Tryz.prog V = .ok (.string sB) V := by rw [HSB.out]; exact hV.2.str
  refine wp_value (.string sB) V (by first | (go_simp; done) | (go_simp; rfl)) ?_
  refine hK.out (Bl w) _ _ (Bl.stays w) (fun _ _ h => h) hV.1 ?_
  clear hcv hK K hV
  (try simp only [Act.put, List.getElem_toArray, List.getElem_cons_zero, List.getElem_cons_succ, List.setIfInBounds_toArray, List.set_cons_zero, List.set_cons_succ])
  refine wpDyn_take ?v7 (Bl.stays w) (fun _ h => h) (i := 7) rfl (by kernel_rfl) (by kernel_rfl) (by kernel_rfl) (by kernel_rfl) (by kernel_rfl) (fun _ _ _ h => h) (Gives.value (by rfl) ?y7) ?r7
  case y7 => (intro w' hSw; (try dsimp only at hSw); go_simp; try with_reducible rfl)
  (try simp only [Act.put, List.getElem_toArray, List.getElem_cons_zero, List.getElem_cons_succ, List.setIfInBounds_toArray, List.set_cons_zero, List.set_cons_succ])
  refine wpDyn_take ?v8 (Bl.stays w) (fun _ h => h) (i := 8) rfl (by kernel_rfl) (by kernel_rfl) (by kernel_rfl) (by kernel_rfl) (by kernel_rfl) (fun _ _ _ h => h) (Gives.value (by rfl) ?y8) ?r8
  case y8 => (intro w' hSw; (try dsimp only at hSw); go_simp; try with_reducible rfl)
  (try simp only [Act.put, List.getElem_toArray, List.getElem_cons_zero, List.getElem_cons_succ, List.setIfInBounds_toArray, List.set_cons_zero, List.set_cons_succ])
  refine wpDyn_take ?v9 (Bl.stays w) (fun _ h => h) (i := 9) rfl (by kernel_rfl) (by kernel_rfl) (by kernel_rfl) (by kernel_rfl) (by kernel_rfl) (fun _ _ _ h => h) (Gives.value (by rfl) ?y9) ?r9
  case y9 => (intro w' hSw; (try dsimp only at hSw); go_simp; try with_reducible rfl)
  (try simp only [Act.put, List.getElem_toArray, List.getElem_cons_zero, List.getElem_cons_succ, List.setIfInBounds_toArray, List.set_cons_zero, List.set_cons_succ])
  refine wpDyn_take ?v11 (Bl.stays w) (fun _ h => h) (i := 11) rfl (by kernel_rfl) (by kernel_rfl) (by kernel_rfl) (by kernel_rfl) (by kernel_rfl) (fun _ _ _ h => h) (Gives.value (by rfl) ?y11) ?r11
  case y11 => (intro w' hSw; (try dsimp only at hSw); go_simp; try with_reducible rfl)
  (try simp only [Act.put, List.getElem_toArray, List.getElem_cons_zero, List.getElem_cons_succ, List.setIfInBounds_toArray, List.set_cons_zero, List.set_cons_succ])
  refine wpDyn_take ?v12 (Bl.stays w) (fun _ h => h) (i := 12) rfl (by kernel_rfl) (by kernel_rfl) (by kernel_rfl) (by kernel_rfl) (by kernel_rfl) (fun _ _ _ h => h) (Gives.value (by rfl) ?y12) ?r12
  case y12 => (intro w' hSw; (try dsimp only at hSw); go_simp; try with_reducible rfl)
  (try simp only [Act.put, List.getElem_toArray, List.getElem_cons_zero, List.getElem_cons_succ, List.setIfInBounds_toArray, List.set_cons_zero, List.set_cons_succ])
  refine wpDyn_take ?v13 (Bl.stays w) (fun _ h => h) (i := 13) rfl (by kernel_rfl) (by kernel_rfl) (by kernel_rfl) (by kernel_rfl) (by kernel_rfl) (fun _ _ _ h => h) (Gives.value (by rfl) ?y13) ?r13
  case y13 => (intro w' hSw; (try dsimp only at hSw); go_simp; try with_reducible rfl)
  (try simp only [Act.put, List.getElem_toArray, List.getElem_cons_zero, List.getElem_cons_succ, List.setIfInBounds_toArray, List.set_cons_zero, List.set_cons_succ])
  refine wpDyn_take ?v14 (Bl.stays w) (fun _ h => h) (i := 14) rfl (by kernel_rfl) (by kernel_rfl) (by kernel_rfl) (by kernel_rfl) (by kernel_rfl) (fun _ _ _ h => h) (Gives.value (by rfl) ?y14) ?r14
  case y14 => (intro w' hSw; have hcl := cell_below (Bl.out' hSw) HC3.out; clear hSw; go_simp; try with_reducible rfl)
  (try simp only [Act.put, List.getElem_toArray, List.getElem_cons_zero, List.getElem_cons_succ, List.setIfInBounds_toArray, List.set_cons_zero, List.set_cons_succ])
  refine wpDyn_ready (rs := [10]) (by kernel_rfl) (by simp) (AllDyn.cons rfl (fun V hV K hK => ?_) AllDyn.nil)
  rw [if_pos (by rfl)]
  have hC := Recs_S V L a g gt m t (HT.out V hV) HFw.out HRc.out
  rw [← HnW.out, strs_txb] at hC
  refine wp_enterX 28 #[.pointer (some ⟨gt, 0, none⟩)] (by first | (go_simp; done) | (go_simp; rfl)) (fun v V' => ∃ p' c', v = .slice p' nW c' ∧ RdV V' p' nW c' (txt (txb t.r.recs)) ∧ Below V.heap.size V V') (hC.mono fun e V' ⟨⟨p', c', h1, h2, _⟩, h3⟩ => ⟨_, h1, p', c', rfl, h2, h3⟩) ?_
  rintro v V1 ⟨pw, cw, rfl, hR, hb⟩
  refine hK.out (fun W => Bl w W ∧ RdV W pw nW cw (txt (txb t.r.recs))) _ _ (fun _ _ h hb => ⟨Bl.stays w _ _ h.1 hb, h.2.below hb⟩) (fun _ _ h => h.1) ⟨Bl.stays w _ _ hV hb, hR⟩ ?_
  clear hK K hV hC hR hb
  (try simp only [Act.put, List.getElem_toArray, List.getElem_cons_zero, List.getElem_cons_succ, List.setIfInBounds_toArray, List.set_cons_zero, List.set_cons_succ])
  refine wpDyn_ready (rs := [15]) (by kernel_rfl) (by simp) (AllDyn.cons rfl (fun V hV K hK => ?_) AllDyn.nil)
  rw [if_pos (by rfl)]
  have hC := eqStr_any pw p nW cw nW c (txb t.r.recs) (txb t.r.recs) V hV.2 (HRV.out V hV.1) (by rw [HnW.out]; exact HFw.out) (by rw [HnW.out]; exact HFw.out)
  rw [sameT_yes rfl] at hC
  refine wp_enterX 27 #[.slice pw nW cw, .slice p nW c] (by first | (go_simp; done) | (go_simp; rfl)) (fun v V' => v = .bool true ∧ Below V.heap.size V V') (hC.mono fun e V' ⟨h1, h2⟩ => ⟨_, h1, rfl, h2⟩) ?_
  rintro v V1 ⟨rfl, hb⟩
  refine hK.out (Bl w) _ _ (Bl.stays w) (fun _ _ h => h) (Bl.stays w _ _ hV.1 hb) ?_
  clear hK K hV hC hb
  (try simp only [Act.put, List.getElem_toArray, List.getElem_cons_zero, List.getElem_cons_succ, List.setIfInBounds_toArray, List.set_cons_zero, List.set_cons_succ])
  refine wpDyn_take ?v16 (Bl.stays w) (fun _ h => h) (i := 16) rfl (by kernel_rfl) (by kernel_rfl) (by kernel_rfl) (by kernel_rfl) (by kernel_rfl) (fun _ _ _ h => h) (Gives.value (by rfl) ?y16) ?r16
  case y16 => (intro w' hSw; (try dsimp only at hSw); go_simp; try with_reducible rfl)
  (try simp only [Act.put, List.getElem_toArray, List.getElem_cons_zero, List.getElem_cons_succ, List.setIfInBounds_toArray, List.set_cons_zero, List.set_cons_succ])
  refine wpDyn_take ?v17 (Bl.stays w) (fun _ h => h) (i := 17) rfl (by kernel_rfl) (by kernel_rfl) (by kernel_rfl) (by kernel_rfl) (by kernel_rfl) (fun _ _ _ h => h) (Gives.value (by rfl) ?y17) ?r17
  case y17 => (intro w' hSw; (try dsimp only at hSw); go_simp; try with_reducible rfl)
  (try simp only [Act.put, List.getElem_toArray, List.getElem_cons_zero, List.getElem_cons_succ, List.setIfInBounds_toArray, List.set_cons_zero, List.set_cons_succ])
  refine wpDyn_take ?v18 (Bl.stays w) (fun _ h => h) (i := 18) rfl (by kernel_rfl) (by kernel_rfl) (by kernel_rfl) (by kernel_rfl) (by kernel_rfl) (fun _ _ _ h => h) (Gives.value (by rfl) ?y18) ?r18
  case y18 => (intro w' hSw; (try dsimp only at hSw); go_simp; try with_reducible rfl)
  (try simp only [Act.put, List.getElem_toArray, List.getElem_cons_zero, List.getElem_cons_succ, List.setIfInBounds_toArray, List.set_cons_zero, List.set_cons_succ])
  refine wpDyn_take ?v20 (Bl.stays w) (fun _ h => h) (i := 20) rfl (by kernel_rfl) (by kernel_rfl) (by kernel_rfl) (by kernel_rfl) (by kernel_rfl) (fun _ _ _ h => h) (Gives.value (by rfl) ?y20) ?r20
  case y20 => (intro w' hSw; (try dsimp only at hSw); go_simp; try with_reducible rfl)
  (try simp only [Act.put, List.getElem_toArray, List.getElem_cons_zero, List.getElem_cons_succ, List.setIfInBounds_toArray, List.set_cons_zero, List.set_cons_succ])
  refine wpDyn_take ?v21 (Bl.stays w) (fun _ h => h) (i := 21) rfl (by kernel_rfl) (by kernel_rfl) (by kernel_rfl) (by kernel_rfl) (by kernel_rfl) (fun _ _ _ h => h) (Gives.value (by rfl) ?y21) ?r21
  case y21 => (intro w' hSw; (try dsimp only at hSw); go_simp; try with_reducible rfl)
  (try simp only [Act.put, List.getElem_toArray, List.getElem_cons_zero, List.getElem_cons_succ, List.setIfInBounds_toArray, List.set_cons_zero, List.set_cons_succ])
  refine wpDyn_take ?v22 (Bl.stays w) (fun _ h => h) (i := 22) rfl (by kernel_rfl) (by kernel_rfl) (by kernel_rfl) (by kernel_rfl) (by kernel_rfl) (fun _ _ _ h => h) (Gives.value (by rfl) ?y22) ?r22
  case y22 => (intro w' hSw; (try dsimp only at hSw); go_simp; try with_reducible rfl)
  (try simp only [Act.put, List.getElem_toArray, List.getElem_cons_zero, List.getElem_cons_succ, List.setIfInBounds_toArray, List.set_cons_zero, List.set_cons_succ])
  refine wpDyn_take ?v23 (Bl.stays w) (fun _ h => h) (i := 23) rfl (by kernel_rfl) (by kernel_rfl) (by kernel_rfl) (by kernel_rfl) (by kernel_rfl) (fun _ _ _ h => h) (Gives.value (by rfl) ?y23) ?r23
  case y23 => (intro w' hSw; have hcl := cell_below (Bl.out' hSw) HC5.out; clear hSw; go_simp; try with_reducible rfl)
  (try simp only [Act.put, List.getElem_toArray, List.getElem_cons_zero, List.getElem_cons_succ, List.setIfInBounds_toArray, List.set_cons_zero, List.set_cons_succ])
  refine wpDyn_ready (rs := [19]) (by kernel_rfl) (by simp) (AllDyn.cons rfl (fun V hV K hK => ?_) AllDyn.nil)
  rw [if_pos (by rfl)]
  have hC := Kept_S V L a g gt m t (HT.out V hV)
  rw [← HnK.out] at hC
  refine wp_enterX 26 #[.pointer (some ⟨gt, 0, none⟩)] (by first | (go_simp; done) | (go_simp; rfl)) (fun v V' => v = .int .i64 nK ∧ Below V.heap.size V V') (hC.mono fun e V' ⟨h1, h2⟩ => ⟨_, h1, rfl, h2⟩) ?_
  rintro v V1 ⟨rfl, hb⟩
  refine hK.out (Bl w) _ _ (Bl.stays w) (fun _ _ h => h) (Bl.stays w _ _ hV hb) ?_
  clear hK K hV hC hb
  (try simp only [Act.put, List.getElem_toArray, List.getElem_cons_zero, List.getElem_cons_succ, List.setIfInBounds_toArray, List.set_cons_zero, List.set_cons_succ])
  refine wpDyn_take ?v24 (Bl.stays w) (fun _ h => h) (i := 24) rfl (by kernel_rfl) (by kernel_rfl) (by kernel_rfl) (by kernel_rfl) (by kernel_rfl) (fun _ _ _ h => h) (Gives.value (by rfl) ?y24) ?r24
  case y24 => (intro w' hSw; (try dsimp only at hSw); go_simp; try with_reducible rfl)
  (try simp only [Act.put, List.getElem_toArray, List.getElem_cons_zero, List.getElem_cons_succ, List.setIfInBounds_toArray, List.set_cons_zero, List.set_cons_succ])
  refine wpDyn_take ?v25 (Bl.stays w) (fun _ h => h) (i := 25) rfl (by kernel_rfl) (by kernel_rfl) (by kernel_rfl) (by kernel_rfl) (by kernel_rfl) (fun _ _ _ h => h) (Gives.value (by rfl) ?y25) ?r25
  case y25 => (intro w' hSw; (try dsimp only at hSw); go_simp; try with_reducible rfl)
  (try simp only [Act.put, List.getElem_toArray, List.getElem_cons_zero, List.getElem_cons_succ, List.setIfInBounds_toArray, List.set_cons_zero, List.set_cons_succ])
  refine wpDyn_take ?v26 (Bl.stays w) (fun _ h => h) (i := 26) rfl (by kernel_rfl) (by kernel_rfl) (by kernel_rfl) (by kernel_rfl) (by kernel_rfl) (fun _ _ _ h => h) (Gives.value (by rfl) ?y26) ?r26
  case y26 => (intro w' hSw; (try dsimp only at hSw); go_simp; try with_reducible rfl)
  (try simp only [Act.put, List.getElem_toArray, List.getElem_cons_zero, List.getElem_cons_succ, List.setIfInBounds_toArray, List.set_cons_zero, List.set_cons_succ])
  refine wpDyn_take ?v27 (Bl.stays w) (fun _ h => h) (i := 27) rfl (by kernel_rfl) (by kernel_rfl) (by kernel_rfl) (by kernel_rfl) (by kernel_rfl) (fun _ _ _ h => h) (Gives.value (by rfl) ?y27) ?r27
  case y27 => (intro w' hSw; (try dsimp only at hSw); go_simp; try with_reducible rfl)
  (try simp only [Act.put, List.getElem_toArray, List.getElem_cons_zero, List.getElem_cons_succ, List.setIfInBounds_toArray, List.set_cons_zero, List.set_cons_succ])
  refine wpDyn_take ?v29 (Bl.stays w) (fun _ h => h) (i := 29) rfl (by kernel_rfl) (by kernel_rfl) (by kernel_rfl) (by kernel_rfl) (by kernel_rfl) (fun _ _ _ h => h) (Gives.value (by rfl) ?y29) ?r29
  case y29 => (intro w' hSw; (try dsimp only at hSw); go_simp; try with_reducible rfl)
  (try simp only [Act.put, List.getElem_toArray, List.getElem_cons_zero, List.getElem_cons_succ, List.setIfInBounds_toArray, List.set_cons_zero, List.set_cons_succ])
  refine wpDyn_take ?v30 (Bl.stays w) (fun _ h => h) (i := 30) rfl (by kernel_rfl) (by kernel_rfl) (by kernel_rfl) (by kernel_rfl) (by kernel_rfl) (fun _ _ _ h => h) (Gives.value (by rfl) ?y30) ?r30
  case y30 => (intro w' hSw; (try dsimp only at hSw); go_simp; try with_reducible rfl)
  (try simp only [Act.put, List.getElem_toArray, List.getElem_cons_zero, List.getElem_cons_succ, List.setIfInBounds_toArray, List.set_cons_zero, List.set_cons_succ])
  refine wpDyn_take ?v31 (Bl.stays w) (fun _ h => h) (i := 31) rfl (by kernel_rfl) (by kernel_rfl) (by kernel_rfl) (by kernel_rfl) (by kernel_rfl) (fun _ _ _ h => h) (Gives.value (by rfl) ?y31) ?r31
  case y31 => (intro w' hSw; (try dsimp only at hSw); go_simp; try with_reducible rfl)
  (try simp only [Act.put, List.getElem_toArray, List.getElem_cons_zero, List.getElem_cons_succ, List.setIfInBounds_toArray, List.set_cons_zero, List.set_cons_succ])
  refine wpDyn_take ?v32 (Bl.stays w) (fun _ h => h) (i := 32) rfl (by kernel_rfl) (by kernel_rfl) (by kernel_rfl) (by kernel_rfl) (by kernel_rfl) (fun _ _ _ h => h) (Gives.value (by rfl) ?y32) ?r32
  case y32 => (intro w' hSw; have hcl := cell_below (Bl.out' hSw) HC3.out; clear hSw; go_simp; try with_reducible rfl)
  (try simp only [Act.put, List.getElem_toArray, List.getElem_cons_zero, List.getElem_cons_succ, List.setIfInBounds_toArray, List.set_cons_zero, List.set_cons_succ])
  refine wpDyn_take ?v33 (Bl.stays w) (fun _ h => h) (i := 33) rfl (by kernel_rfl) (by kernel_rfl) (by kernel_rfl) (by kernel_rfl) (by kernel_rfl) (fun _ _ _ h => h) (Gives.value (by rfl) ?y33) ?r33
  case y33 => (intro w' hSw; (try dsimp only at hSw); go_simp; try with_reducible rfl)
  (try simp only [Act.put, List.getElem_toArray, List.getElem_cons_zero, List.getElem_cons_succ, List.setIfInBounds_toArray, List.set_cons_zero, List.set_cons_succ])
  refine wpDyn_ready (rs := [28]) (by kernel_rfl) (by simp) (AllDyn.cons rfl (fun V hV K hK => ?_) AllDyn.nil)
  rw [if_pos (by rfl)]
  have hC := Len_S V L a g gt m t (HT.out V hV)
  rw [← HnW.out] at hC
  refine wp_enterX 30 #[.pointer (some ⟨gt, 0, none⟩)] (by first | (go_simp; done) | (go_simp; rfl)) (fun v V' => v = .int .i64 nW ∧ Below V.heap.size V V') (hC.mono fun e V' ⟨h1, h2⟩ => ⟨_, h1, rfl, h2⟩) ?_
  rintro v V1 ⟨rfl, hb⟩
  refine hK.out (Bl w) _ _ (Bl.stays w) (fun _ _ h => h) (Bl.stays w _ _ hV hb) ?_
  clear hK K hV hC hb
  (try simp only [Act.put, List.getElem_toArray, List.getElem_cons_zero, List.getElem_cons_succ, List.setIfInBounds_toArray, List.set_cons_zero, List.set_cons_succ])
  refine wpDyn_take ?v34 (Bl.stays w) (fun _ h => h) (i := 34) rfl (by kernel_rfl) (by kernel_rfl) (by kernel_rfl) (by kernel_rfl) (by kernel_rfl) (fun _ _ _ h => h) (Gives.value (by rfl) ?y34) ?r34
  case y34 => (intro w' hSw; (try dsimp only at hSw); go_simp; try with_reducible rfl)
  (try simp only [Act.put, List.getElem_toArray, List.getElem_cons_zero, List.getElem_cons_succ, List.setIfInBounds_toArray, List.set_cons_zero, List.set_cons_succ])
  refine wpDyn_take ?v35 (Bl.stays w) (fun _ h => h) (i := 35) rfl (by kernel_rfl) (by kernel_rfl) (by kernel_rfl) (by kernel_rfl) (by kernel_rfl) (fun _ _ _ h => h) (Gives.value (by rfl) ?y35) ?r35
  case y35 => (intro w' hSw; (try dsimp only at hSw); go_simp; try with_reducible rfl)
  (try simp only [Act.put, List.getElem_toArray, List.getElem_cons_zero, List.getElem_cons_succ, List.setIfInBounds_toArray, List.set_cons_zero, List.set_cons_succ])
  refine wpDyn_take ?v36 (Bl.stays w) (fun _ h => h) (i := 36) rfl (by kernel_rfl) (by kernel_rfl) (by kernel_rfl) (by kernel_rfl) (by kernel_rfl) (fun _ _ _ h => h) (Gives.value (by rfl) ?y36) ?r36
  case y36 => (intro w' hSw; (try dsimp only at hSw); go_simp; try with_reducible rfl)
  (try simp only [Act.put, List.getElem_toArray, List.getElem_cons_zero, List.getElem_cons_succ, List.setIfInBounds_toArray, List.set_cons_zero, List.set_cons_succ])
  refine wpDyn_done (by kernel_rfl) (fun W2 hW2 => ?_) _
  have HB99 : Hid (Below w.heap.size w W2) := Bl.out' hW2
  clear hW2
  go_wp2_with fail
  go_ret
  exact ⟨rfl, HB99.out⟩

set_option maxRecDepth 20000 in
set_option maxHeartbeats 1000000 in
/-- Two disks that tell the same. -/
theorem face_same (w : World) (L a g gy : Nat) (own : Nat → Nat) (d : Dk) (m : PD) (k : Sl) (s : Nat) (hD : DS w L a g own d m) (hR : RC w gy m k) (hm : m.ok s) (hs : s ≤ 274877906944) (hup : m.down = false) (hBy : ∀ i, i < 2 → By (m.f i).told) :
    Calls Tryz.prog 24 #[.pointer (some ⟨g, 0, none⟩), .pointer (some ⟨gy, 0, none⟩)] w fun e w' => e = .returned (.bool true) ∧ Below w.heap.size w w' := by
  have HD : Hid (∀ W, Bl w W → DA W L own a g d m) := fun W h => hD.da.below (Bl.out' h)
  have HR : Hid (∀ W, Bl w W → RC W gy m k) := fun W h => hR.below (Bl.out' h)
  have HM : Hid (0 < m.room ∧ m.down = false ∧ m.few) := ⟨hm.r0, hup, hm.few (by omega)⟩
  have HBY : Hid (∀ i, i < 2 → By (m.f i).told) := hBy
  clear hD hR hm hs hup hBy
  go_enter Tryz.func24, Tryz.ntmps24
  go_wp2_with fail
  go_loopw [10] (fun ix wr => ∃ (j : Nat), j ≤ 2 ∧ ix = .int .i64 j ∧ Bl w wr) (fun ix _ => 2 - (intOf ix).toNat)
  case atStart => exact ⟨0, Nat.zero_le _, rfl, Below.refl _ _⟩
  case round =>
    obtain ⟨j, hj, rfl, hb⟩ := hrel
    by_cases hj2 : j < 2
    · have hji : (j : Int) < 2 := by omega
      have h1 := Read_O wr L own a g d m (HD.out wr hb) HM.out.1 HM.out.2.1 HM.out.2.2 j (by omega)
      obtain ⟨n, Hn⟩ : ∃ z, Hid (z = (m.f j).told.length) := ⟨_, rfl⟩
      obtain ⟨xs, Hxs⟩ : ∃ z, Hid (z = (m.f j).told) := ⟨_, rfl⟩
      have HBx : Hid (By xs) := by rw [Hxs.out]; exact HBY.out j hj2
      rw [← Hn.out, ← Hxs.out] at h1
      have HB : Hid (Bl w wr) := hb
      clear hb
      go_wp2_with fail
      refine h1.mono ?_
      rintro e w1 ⟨p1, c1, rfl, hO1, hb1⟩
      clear h1
      have HB1 : Hid (Bl w w1) := Bl.stays w _ _ HB.out hb1
      have h2 := rRead_by w1 gy m k (HR.out w1 HB1.out) HM.out.2.1 j (by omega) (HBY.out j hj2)
      rw [← Hn.out, ← Hxs.out] at h2
      have HO1 : Hid (Rd .u8 w1 p1 n c1 xs) := hO1.rd
      clear hO1 hb1
      go_wp2_with fail
      refine h2.mono ?_
      rintro e w2 ⟨p2, c2, rfl, hO2, hb2, _⟩
      clear h2
      have hEq := equal_same p1 p2 n c1 n c2 xs w2 (HO1.out.below' hb2) hO2 HBx.out
      have HB2 : Hid (Bl w w2) := Bl.stays w _ _ HB1.out hb2
      clear hO2 hb2
      go_wp2_with fail
      refine hEq.mono ?_
      rintro e w3 ⟨rfl, hw3⟩
      subst hw3
      clear hEq
      go_wp2_with fail
      go_roundw
      case rel => exact ⟨j + 1, by omega, by go_num, HB2.out⟩
      case measure => simp [intOf]; omega
    · have hji : ¬ (j : Int) < 2 := by omega
      have HB : Hid (Bl w wr) := hb
      clear hb
      go_wp2_with fail
      go_ret
      exact ⟨rfl, HB.out⟩

end Go.Proofs.YtpjhadaiodnnaaaGreat.M
end

section
namespace Go.Proofs.YtpjhadaiodnnaaaGreat.M
open Go.ChangeShapes Go.WideShapes Go.ChangeAt Go.RowKit
set_option linter.unusedSimpArgs false

/-- What Save leaves. -/
def RSv (w w' : World) (g gx : Nat) (F : Nat → Prop) (m : PD) (t : TP) : Prop := ∃ k p c, RX w' g gx F m t k p c ∧ Ch (fun j => j = g ∨ j = gx) w w'

theorem RX.sv {w w' : World} {g gx : Nat} {F : Nat → Prop} {m : PD} {t : TP} {k : Sl} {p : Option Addr} {c : Nat} (h : RX w' g gx F m t k p c) (hc : Ch (fun j => j = g) w w') : RSv w w' g gx F m t := ⟨k, p, c, h, hc.mono fun _ _ e => Or.inl e⟩

theorem svT_range {m : PD} {t : TP} {base : List Int} {recs : List (List Int)} (h : 1099511627776 ≤ t.r.gen) : svT m t base recs = (5, m, t) := if_pos h

theorem svT_long {m : PD} {t : TP} {base : List Int} {recs : List (List Int)} (h : ¬ 1099511627776 ≤ t.r.gen) (h2 : fitsR base.length recs = false) : svT m t base recs = (4, m, t) := (if_neg h).trans (if_pos h2)

theorem svT_do {m : PD} {t : TP} {base : List Int} {recs : List (List Int)} (h : ¬ 1099511627776 ≤ t.r.gen) (h2 : ¬ fitsR base.length recs = false) : svT m t base recs = ((wrM m (1 - t.file) (sealR ⟨t.r.gen + 1, base, recs⟩)).2, (wrM m (1 - t.file) (sealR ⟨t.r.gen + 1, base, recs⟩)).1, if (wrM m (1 - t.file) (sealR ⟨t.r.gen + 1, base, recs⟩)).2 = 0 then ⟨1 - t.file, recs.length, ⟨t.r.gen + 1, base, recs⟩⟩ else t) := (if_neg h).trans (if_neg h2)

theorem wrM_1 {m : PD} {i : Nat} {bs : List Int} (h : m.gone 1 = true) : wrM m i bs = (m.clearAt i, 50) := if_pos h
theorem wrM_2 {m : PD} {i : Nat} {bs : List Int} (h : m.gone 1 = false) (h2 : m.room < (m.clearAt i).used + bs.length) : wrM m i bs = (m.clearAt i, 7) := (if_neg (by rw [h]; decide)).trans (if_pos h2)
theorem wrM_3 {m : PD} {i : Nat} {bs : List Int} (h : m.gone 1 = false) (h2 : ¬ m.room < (m.clearAt i).used + bs.length) (h3 : (m.clearAt i).gone bs.length = true) : wrM m i bs = ((m.clearAt i).putAt i bs, 50) := (if_neg (by rw [h]; decide)).trans ((if_neg h2).trans (if_pos h3))
theorem wrM_4 {m : PD} {i : Nat} {bs : List Int} (h : m.gone 1 = false) (h2 : ¬ m.room < (m.clearAt i).used + bs.length) (h3 : (m.clearAt i).gone bs.length = false) : wrM m i bs = (((m.clearAt i).putAt i bs).syncAt i, goneE (((m.clearAt i).putAt i bs).gone 1)) := (if_neg (by rw [h]; decide)).trans ((if_neg h2).trans (if_neg (by rw [h3]; decide)))

theorem flat_take_le (l : List (List Int)) (k : Nat) : ((l.take k).map sealL).flatten.length ≤ (l.map sealL).flatten.length := by
  have e : l.map sealL = (l.take k).map sealL ++ (l.drop k).map sealL := by rw [← List.map_append, List.take_append_drop]
  rw [e, List.flatten_append, List.length_append]
  omega

theorem At.set {t : TypeId} {w : World} {g : Nat} {cs : Array Value} (h : At t w g cs) (i : Nat) (v : Value) : At t (w.setCell ⟨g, i, none⟩ v) g (cs.setIfInBounds i v) := heap_setCell_same w g i _ _ v h

theorem RD.ch {S : Nat → Prop} {w w' : World} {g : Nat} {m : PD} {k : Sl} (h : RD w g m k) (hc : Ch S w w') (hg : ¬ S g) (hs : ∀ x, k.p = some x → 0 < k.n → ¬ S x.block) : RD w' g m k := ⟨h.rc.ch hc hg, h.keep.ch0 hc hs, h.ne⟩

/-- Save, done: what is stored into the tape's block. -/
theorem RX.saved {w w10 : World} {g gx : Nat} {F : Nat → Prop} {m : PD} {t t2 : TP} {k : Sl} {p : Option Addr} {c : Nat} (h : RX w g gx F m t k p c) (hc : Ch (fun j => j = gx) w w10) (p7 : Option Addr) (c7 : Nat)
    (hA : At 87 w10 gx #[.pointer (some ⟨g, 0, none⟩), .int .i64 t2.r.gen, .string (strOfNums t2.r.base), .slice p7 t2.r.recs.length c7, .int .i64 t2.file, .int .i64 t2.kept])
    (hR : RdV w10 p7 t2.r.recs.length c7 (strs t2.r.recs)) (hf : ∀ x, p7 = some x → 0 < t2.r.recs.length → x.block ≠ g ∧ x.block ≠ gx) (hF : ∀ x, p7 = some x → 0 < t2.r.recs.length → F x.block) : RX w10 g gx F m t2 k p7 c7 :=
  ⟨h.rd.ch hc (fun e => h.rt.ne e.symm) h.kx, ⟨hA, hR, hf, h.rt.ne⟩, h.kx, h.fk, hF⟩

/-- The document's Save. -/
def SvQ (w : World) (g gx : Nat) (F : Nat → Prop) (S : Int × PD × TP) (e : Ending) (w' : World) : Prop := e = .returned (.int .i64 S.1) ∧ RSv w w' g gx F S.2.1 S.2.2

set_option maxRecDepth 20000 in
set_option maxHeartbeats 4000000 in
theorem rSave_any (w : World) (g gx : Nat) (F : Nat → Prop) (hF : ∀ j, w.heap.size ≤ j → F j) (m : PD) (t : TP) (k : Sl) (p : Option Addr) (c : Nat) (h : RX w g gx F m t k p c) (s : Nat) (hm : m.ok s) (hs : s ≤ 1099511627) (hp : m.pre) (hw : m.down = false) (hfile : t.file ≤ 1) (hgen : 0 ≤ t.r.gen ∧ t.r.gen ≤ 1099511627776)
    (base : List Int) (hby : By base) (pl : Option Addr) (nl cl : Nat) (recs : List (List Int)) (hpl : RdV w pl nl cl (strs recs)) (hplx : ∀ x, pl = some x → 0 < nl → x.block ≠ g ∧ x.block ≠ gx) (hfew : recs.length ≤ 1000000) (hrec : ∀ i, i < recs.length → By (recs.getD i [])) (hsl : (sealR ⟨t.r.gen + 1, base, recs⟩).length ≤ 1099511627) :
    Calls Tryz.prog 15 #[.pointer (some ⟨gx, 0, none⟩), .string (strOfNums base), .slice pl nl cl] w (SvQ w g gx F (svT m t base recs)) := by
  have HF : Hid (∀ j, w.heap.size ≤ j → F j) := hF
  clear hF
  have hnl : nl = recs.length := by rw [← hpl.len, strs_len]
  have HN : Hid (nl = recs.length) := hnl
  have hfw : nl ≤ 1000000 := by omega
  have c1 := h.rt.blk.cell 1
  have hbl : ((strOfNums base).size : Int) = (base.length : Int) := by rw [strOfNums_size]
  by_cases h40 : 1099511627776 ≤ t.r.gen
  · have HS : Hid (svT m t base recs = (5, m, t)) := svT_range h40
    have hge : t.r.gen = 1099511627776 := by omega
    rw [hge] at c1
    have HX : Hid (RSv w w g gx F m t) := h.sv (Ch.refl _ _)
    clear h hnl hbl hpl hge h40
    go_enter Tryz.func15, Tryz.ntmps15
    go_wp2_with fail
    go_ret
    unfold SvQ
    rw [HS.out]
    exact ⟨rfl, HX.out⟩
  · have hge : (t.r.gen == 1099511627776) = false := by simp; omega
    by_cases hb8 : 8176 < base.length
    · have HS : Hid (svT m t base recs = (4, m, t)) := svT_long h40 (by unfold fitsR; rw [decide_eq_false (by omega), Bool.false_and])
      have hbi : (8176 : Int) < ((strOfNums base).size : Int) := by rw [hbl]; omega
      have HX : Hid (RSv w w g gx F m t) := h.sv (Ch.refl _ _)
      clear h hnl hbl hpl h40
      go_enter Tryz.func15, Tryz.ntmps15
      go_wp2_with fail
      go_ret
      unfold SvQ
      rw [HS.out]
      exact ⟨rfl, HX.out⟩
    · have hbi : ¬ (8176 : Int) < ((strOfNums base).size : Int) := by rw [hbl]; omega
      have H40 : Hid (t.r.gen < 1099511627776) := Int.not_le.1 h40
      obtain ⟨G, hG⟩ : ∃ G : Nat, t.r.gen + 1 = (G : Int) := ⟨(t.r.gen + 1).toNat, by omega⟩
      have hGl : G ≤ 1099511627776 := by omega
      have hGb : t.r.gen + 1 ≤ 1099511627776 := by omega
      have hG0 : 0 ≤ t.r.gen := hgen.1
      have hH := rHead_ok w G nl base hGl hfw ⟨by omega, hby⟩
      have HGe : Hid (t.r.gen + 1 = (G : Int)) := hG
      have HX : Hid (RX w g gx F m t k p c) := h
      have HPL : Hid (RdV w pl nl cl (strs recs)) := hpl
      have HSL : Hid ((sealR ⟨t.r.gen + 1, base, recs⟩).length ≤ 1099511627) := hsl
      have HSE : Hid (sealR ⟨t.r.gen + 1, base, recs⟩ = sealL (hdR G nl base) ++ (recs.map sealL).flatten) := by
        show _ = _
        rw [sealR_file]
        dsimp only
        rw [HGe.out, ← HN.out]
        rfl
      obtain ⟨hd, Hhd⟩ : ∃ z, Hid (z = hdR G nl base) := ⟨_, rfl⟩
      rw [← Hhd.out] at hH HSE
      have hgl : gx < w.heap.size := h.rt.blk.lt
      have hxl : g < w.heap.size := h.rd.rc.lt
      clear h hnl hbl hpl hsl hgen
      go_enter Tryz.func15, Tryz.ntmps15
      go_wp2_with fail
      refine hH.mono ?_
      rintro e w1 ⟨p1, n1, c1', rfl, hO1, hb1⟩
      clear hH c1
      have HBY : Hid (∀ i, i < recs.length → By (recs.getD i [])) := hrec
      have HFT : Hid (∀ j, ((recs.take j).map sealL).flatten.length ≤ (recs.map sealL).flatten.length) := flat_take_le recs
      have HLL : Hid ((sealL hd).length + (recs.map sealL).flatten.length ≤ 1099511627) := by
        have h1 := HSL.out
        rw [HSE.out, List.length_append] at h1
        exact h1
      have HMM : Hid (m.ok s ∧ s ≤ 1099511627 ∧ m.pre ∧ m.down = false) := ⟨hm, hs, hp, hw⟩
      have HO1 : Hid (Ow .u8 5 w1 w.heap.size p1 n1 c1' (sealL hd)) := hO1
      have HB1 : Hid (Below w.heap.size w w1) := hb1
      have HNX : Hid (∀ x, pl = some x → 0 < nl → x.block ≠ g ∧ x.block ≠ gx) := hplx
      obtain ⟨i0, hi0, hz0, hz1, hz2⟩ := info_parts infoT
      clear hrec hm hs hp hw hO1 hb1 hplx hfew
      go_wp2_with fail
      go_loopw [7, 42] (fun al ix wr => ∃ (j : Nat) (pq : Option Addr) (nq cq : Nat), j ≤ nl ∧ ix = .int .i64 j ∧ al = .slice pq nq cq ∧ Ow .u8 5 wr w.heap.size pq nq cq (sealL hd ++ ((recs.take j).map sealL).flatten) ∧ Hid (∀ i, i < j → (recs.getD i []).length ≤ 8192) ∧ Below w.heap.size w wr) (fun _ ix _ => nl - (intOf ix).toNat)
      case atStart => exact ⟨0, p1, n1, c1', Nat.zero_le _, rfl, rfl, by rw [List.take_zero, List.map_nil, List.flatten_nil, List.append_nil]; exact HO1.out, fun _ h => absurd h (Nat.not_lt_zero _), HB1.out⟩
      case round =>
        obtain ⟨j, pq, nq, cq, hj, rfl, rfl, hO, HA, hbw⟩ := hrel
        by_cases hjn : j < nl
        · have hji : (j : Int) < (nl : Int) := by omega
          have hjr : j < recs.length := by rw [← HN.out]; exact hjn
          obtain ⟨bv, ov, hpe, hcv⟩ := HPL.out.cells (by omega)
          subst hpe
          have hck := cell_below hbw (hcv j hjn)
          rw [strs_getD hjr] at hck
          have hyb := HBY.out j hjr
          have HFL : Hid (((recs.take (j + 1)).map sealL).flatten = ((recs.take j).map sealL).flatten ++ sealL (recs.getD j [])) := flat_take hjr
          have hln := hO.len
          rw [List.length_append] at hln
          have HYL : Hid (∀ i, i < j + 1 → (recs.getD j []).length ≤ 8192 → (recs.getD i []).length ≤ 8192) := fun i hi hl => by
            rcases Nat.lt_or_ge i j with h | h
            · exact HA.out i h
            · obtain rfl : i = j := by omega
              exact hl
          have HBAD : Hid (8192 < (recs.getD j []).length → svT m t base recs = (4, m, t)) := fun hl => svT_long (Int.not_le.2 H40.out) (by unfold fitsR; rw [shortV_no hjr (by omega), Bool.and_false])
          have hnb : nq ≤ 1099511627 := by
            have h1 := HFT.out j
            have h2 := HLL.out
            omega
          have hnb2 : nq + (sealL (recs.getD j [])).length ≤ 1099511627 := by
            have h1 := HFT.out (j + 1)
            have h2 := HLL.out
            rw [HFL.out, List.length_append] at h1
            omega
          generalize recs.getD j [] = y at *
          obtain ⟨gc, w2, hcv2, hrd2, hb2⟩ := str_conv wr y hyb
          have hbw2 := hbw.trans (hb2.mono hbw.size)
          clear hcv
          by_cases hyl : 8192 < y.length
          · have gS := rseal_long (some ⟨wr.heap.size, 0, none⟩) y.length gc w2 hyl
            have HX2 : Hid (RSv w w2 g gx F m t) := (HX.out.below hbw2).sv (Ch.of_below hbw2 _)
            have HS : Hid (svT m t base recs = (4, m, t)) := HBAD.out hyl
            clear hrd2 hO
            go_wp2_with fail
            refine gS.mono ?_
            rintro e W4 ⟨rfl, hw4⟩
            subst hw4
            go_wp2_with fail
            go_ret
            unfold SvQ
            rw [HS.out]
            exact ⟨rfl, HX2.out⟩
          · have gS := rseal_any (some ⟨wr.heap.size, 0, none⟩) y.length gc y w2 hrd2 hyb (by omega)
            have HA2 : Hid (∀ i, i < j + 1 → (recs.getD i []).length ≤ 8192) := fun i hi => HYL.out i hi (by omega)
            have hOb := hO.below hb2
            clear hrd2 hO
            go_wp2_with fail
            refine gS.mono ?_
            rintro e W4 ⟨p4, n4, c4, rfl, hO4, hb4⟩
            have hOc := hOb.below hb4
            have hn4 := hO4.len
            have hbw4 := hbw2.trans (hb4.mono hbw2.size)
            have hB4 := hbw4.size
            clear gS hb4 hck hOb hcv2
            go_wp2_with (at_builtin; refine app8 _ rfl _ _ rfl w.heap.size pq nq cq _ rfl hOc p4 n4 c4 (sealL y) rfl hO4.rd ?d1 hB4 ?_; rotate_left 1; intro p5 c5 W5 hO5 hb5)
            case d1 => omega
            go_roundw
            case rel => exact ⟨j + 1, p5, nq + n4, c5, by omega, by go_num, rfl, by rw [HFL.out, ← List.append_assoc]; exact hO5, HA2, hbw4.trans hb5⟩
            case measure => simp [intOf]; omega
        · have hji : ¬ (j : Int) < (nl : Int) := by omega
          have et : recs.take j = recs := List.take_of_length_le (by rw [← HN.out]; omega)
          rw [et, ← HSE.out] at hO
          have HFI : Hid (¬ fitsR base.length recs = false) := by
            show ¬ _
            unfold fitsR
            rw [decide_eq_true (by omega), shortV_yes (fun i hi => HA.out i (by rw [← HN.out] at hi; omega))]
            decide
          have HSV : Hid (svT m t base recs = ((wrM m (1 - t.file) (sealR ⟨t.r.gen + 1, base, recs⟩)).2, (wrM m (1 - t.file) (sealR ⟨t.r.gen + 1, base, recs⟩)).1, if (wrM m (1 - t.file) (sealR ⟨t.r.gen + 1, base, recs⟩)).2 = 0 then ⟨1 - t.file, recs.length, ⟨t.r.gen + 1, base, recs⟩⟩ else t)) := svT_do (Int.not_le.2 H40.out) HFI.out
          obtain ⟨fo, Hfo⟩ : ∃ z, Hid (z = 1 - t.file) := ⟨_, rfl⟩
          have hfo8 : fo < 8 := by rw [Hfo.out]; omega
          have hsub : (1 : Int) - (t.file : Int) = (fo : Int) := by rw [Hfo.out]; omega
          have hnq : nq = (sealR ⟨t.r.gen + 1, base, recs⟩).length := hO.len.symm
          have hnl9 : nq ≤ 1099511627 := by rw [hnq]; exact HSL.out
          rw [← Hfo.out] at HSV
          obtain ⟨bs, Hbs⟩ : ∃ z, Hid (z = sealR ⟨t.r.gen + 1, base, recs⟩) := ⟨_, rfl⟩
          rw [← Hbs.out] at HSV hO hnq
          have HO : Hid (Ow .u8 5 wr w.heap.size pq nq cq bs) := hO
          have HQ : Hid (nq = bs.length) := hnq
          have hX1 := HX.out.below hbw
          have c4 := hX1.rt.blk.cell 4
          have c0 := hX1.rt.blk.cell 0
          have hC := rClear_ok wr g m k hX1.rd s HMM.out.1 (by have := HMM.out.2.1; omega) HMM.out.2.2.1 HMM.out.2.2.2 fo hfo8
          have HX1 : Hid (RX wr g gx F m t k p c) := hX1
          have HBW : Hid (Below w.heap.size w wr) := hbw
          have hf1 : (t.file : Int) ≤ 1 := by omega
          clear hX1 hO hnq hbw hj hjn et HA
          go_wp2_with fail
          refine hC.mono ?_
          rintro e w2 ⟨rfl, hA2⟩
          clear hC c4 c0
          obtain ⟨k2, hX2, hc2⟩ := HX1.out.disk (fun j h => HF.out j (Nat.le_trans HBW.out.size h)) hA2
          have HX2 : Hid (RX w2 g gx F (m.clearAt fo) t k2 p c) := hX2
          have HC2 : Hid (Ch (fun j => j = g) w w2) := (Ch.of_below HBW.out _).trans hc2
          have HO2 : Hid (Rd .u8 w2 pq nq cq bs ∧ ∀ x, pq = some x → 0 < nq → x.block ≠ g ∧ x.block ≠ gx) := by
            have hlt : ∀ x, pq = some x → 0 < nq → w.heap.size ≤ x.block := fun x e h0 => (HO.out.ltC' x e h0).1
            exact ⟨HO.out.rd.ch0 hc2 (fun x e h0 => by have := hlt x e h0; omega), fun x e h0 => by have := hlt x e h0; omega⟩
          clear hA2 hX2 hc2
          cases hg1 : m.gone 1 with
          | true =>
            have HW : Hid (wrM m fo bs = (m.clearAt fo, 50)) := wrM_1 hg1
            have HR : Hid (RSv w w2 g gx F (m.clearAt fo) t) := HX2.out.sv HC2.out
            unfold goneE
            rw [if_pos rfl]
            clear hg1
            go_wp2_with fail
            go_ret
            unfold SvQ
            rw [HSV.out, HW.out]
            exact ⟨rfl, HR.out⟩
          | false =>
            have hup1 : (m.clearAt fo).down = false := act_up HMM.out.2.2.2 hg1
            have hok1 : (m.clearAt fo).ok s := HMM.out.1.clearAt hfo8
            have hrm1 : (m.clearAt fo).room = m.room := act_room _ _ _
            have hpr1 : (m.clearAt fo).pre := HMM.out.2.2.1.clearAt fo
            have c0 := HX2.out.rt.blk.cell 0
            by_cases hu : m.room < (m.clearAt fo).used + bs.length
            · have HW : Hid (wrM m fo bs = (m.clearAt fo, 7)) := wrM_2 hg1 hu
              have hA := rAppend_full w2 g _ k2 HX2.out.rd s hok1 (by have := HMM.out.2.1; omega) hup1 fo hfo8 pq nq cq hnl9 (by rw [hrm1, HQ.out]; exact hu)
              unfold goneE
              rw [if_neg (by decide)]
              clear hg1 hup1 hok1 hrm1 hpr1 hu
              go_wp2_with fail
              refine hA.mono ?_
              rintro e w3 ⟨rfl, hb3⟩
              clear hA c0
              have HR : Hid (RSv w w3 g gx F (m.clearAt fo) t) := (HX2.out.below hb3).sv (HC2.out.trans (Ch.of_below hb3 _))
              clear hb3
              go_wp2_with fail
              go_ret
              unfold SvQ
              rw [HSV.out, HW.out]
              exact ⟨rfl, HR.out⟩
            · have hA := rAppend_ok w2 g _ k2 HX2.out.rd s hok1 HMM.out.2.1 hpr1 hup1 fo hfo8 pq nq cq bs HO2.out.1 (fun x e h0 => (HO2.out.2 x e h0).1) hnl9 (by rw [hrm1, HQ.out]; exact hu)
              rw [HQ.out] at hA
              rw [HQ.out]
              have hok2 : ((m.clearAt fo).putAt fo bs).ok (s + bs.length) := hok1.putAt hfo8 bs
              have hpr2 : ((m.clearAt fo).putAt fo bs).pre := hpr1.putAt hfo8 bs
              cases hg2 : (m.clearAt fo).gone bs.length with
              | true =>
                have HW : Hid (wrM m fo bs = ((m.clearAt fo).putAt fo bs, 50)) := wrM_3 hg1 hu hg2
                rw [hg2] at hA
                unfold goneE at hA
                rw [if_pos rfl] at hA
                unfold goneE
                rw [if_neg (by decide)]
                clear hg1 hup1 hok1 hrm1 hpr1 hu hg2 hok2 hpr2
                go_wp2_with fail
                refine hA.mono ?_
                rintro e w3 ⟨rfl, hA3⟩
                clear hA c0
                obtain ⟨k3, hX3, hc3⟩ := HX2.out.disk (fun j h => HF.out j (Nat.le_trans HC2.out.size h)) hA3
                have HR : Hid (RSv w w3 g gx F ((m.clearAt fo).putAt fo bs) t) := hX3.sv (HC2.out.trans hc3)
                clear hA3 hX3 hc3
                go_wp2_with fail
                go_ret
                unfold SvQ
                rw [HSV.out, HW.out]
                exact ⟨rfl, HR.out⟩
              | false =>
                have HW : Hid (wrM m fo bs = (((m.clearAt fo).putAt fo bs).syncAt fo, goneE (((m.clearAt fo).putAt fo bs).gone 1))) := wrM_4 hg1 hu hg2
                have hup2 : ((m.clearAt fo).putAt fo bs).down = false := act_up hup1 hg2
                have HS2 : Hid (s + bs.length ≤ 549755813888) := by have := HMM.out.2.1; have := HQ.out; show _ ≤ _; omega
                have HM2 : Hid (((m.clearAt fo).putAt fo bs).ok (s + bs.length) ∧ ((m.clearAt fo).putAt fo bs).pre ∧ ((m.clearAt fo).putAt fo bs).down = false) := ⟨hok2, hpr2, hup2⟩
                rw [hg2] at hA
                unfold goneE at hA
                rw [if_neg (by decide)] at hA
                unfold goneE
                rw [if_neg (by decide)]
                clear hg1 hup1 hok1 hrm1 hpr1 hu hg2 hok2 hpr2 hup2
                go_wp2_with fail
                refine hA.mono ?_
                rintro e w3 ⟨rfl, hA3⟩
                clear hA c0
                obtain ⟨k3, hX3, hc3⟩ := HX2.out.disk (fun j h => HF.out j (Nat.le_trans HC2.out.size h)) hA3
                have HX3 : Hid (RX w3 g gx F ((m.clearAt fo).putAt fo bs) t k3 p c) := hX3
                have HC3 : Hid (Ch (fun j => j = g) w w3) := HC2.out.trans hc3
                have c0 := HX3.out.rt.blk.cell 0
                have hS := rSync_ok w3 g _ k3 HX3.out.rd _ HM2.out.1 HS2.out HM2.out.2.1 HM2.out.2.2 fo hfo8
                clear hA3 hX3 hc3
                obtain ⟨m4, Hm4⟩ : ∃ z, Hid (z = ((m.clearAt fo).putAt fo bs).syncAt fo) := ⟨_, rfl⟩
                obtain ⟨c4e, Hc4⟩ : ∃ z, Hid (z = goneE (((m.clearAt fo).putAt fo bs).gone 1)) := ⟨_, rfl⟩
                rw [← Hm4.out, ← Hc4.out] at hS HW
                go_wp2_with fail
                refine hS.mono ?_
                rintro e w4 ⟨rfl, hA4⟩
                clear hS c0
                obtain ⟨k4, hX4, hc4⟩ := HX3.out.disk (fun j h => HF.out j (Nat.le_trans HC3.out.size h)) hA4
                have HX4 : Hid (RX w4 g gx F m4 t k4 p c) := hX4
                have HC4 : Hid (Ch (fun j => j = g) w w4) := HC3.out.trans hc4
                clear hA4 hX4 hc4
                by_cases hz : c4e = 0
                · have HSW : Hid (svT m t base recs = (0, m4, ⟨fo, recs.length, ⟨t.r.gen + 1, base, recs⟩⟩)) := by
                    show _ = _
                    rw [HSV.out, HW.out]
                    dsimp only
                    rw [if_pos hz, hz]
                  clear HSV HW Hc4
                  subst hz
                  have hA4 := HX4.out.rt.blk
                  have hgx4 : gx < w4.heap.size := hA4.lt
                  have hgg4 : g < w4.heap.size := HX4.out.rd.rc.lt
                  have c1 := hA4.cell 1
                  have f1 := hA4.free 1
                  obtain ⟨w5, hW5⟩ : ∃ z, w4.setCell ⟨gx, 1, none⟩ (.int .i64 (G : Int)) = z := ⟨_, rfl⟩
                  have hA5 : At 87 w5 gx #[.pointer (some ⟨g, 0, none⟩), .int .i64 (G : Int), .string (strOfNums t.r.base), .slice p t.r.recs.length c, .int .i64 t.file, .int .i64 t.kept] := by rw [← hW5]; exact hA4.set 1 _
                  have hc5 : Ch (fun j => j = gx) w4 w5 := by rw [← hW5]; exact Ch.setCell w4 ⟨gx, 1, none⟩ _
                  have c2 := hA5.cell 2
                  have f2 := hA5.free 2
                  obtain ⟨w6, hW6⟩ : ∃ z, w5.setCell ⟨gx, 2, none⟩ (.string (strOfNums base)) = z := ⟨_, rfl⟩
                  have hA6 : At 87 w6 gx #[.pointer (some ⟨g, 0, none⟩), .int .i64 (G : Int), .string (strOfNums base), .slice p t.r.recs.length c, .int .i64 t.file, .int .i64 t.kept] := by rw [← hW6]; exact hA5.set 2 _
                  have hc56 : Ch (fun j => j = gx) w5 w6 := by rw [← hW6]; exact Ch.setCell w5 ⟨gx, 2, none⟩ _
                  have hc6 := hc5.trans hc56
                  have hcw6 : Ch (fun j => j = g ∨ j = gx) w w6 := (HC4.out.mono fun _ _ e => Or.inl e).trans (hc6.mono fun _ _ e => Or.inr e)
                  have hpl6 : RdV (w6.alloc (.cells #[] 9)) pl nl cl (strs recs) := (HPL.out.ch0 hcw6 (fun x e h0 h => by
                    rcases h with h | h
                    · exact (HNX.out x e h0).1 h
                    · exact (HNX.out x e h0).2 h)).below (below_alloc _ _)
                  have HA6 : Hid (At 87 w6 gx #[.pointer (some ⟨g, 0, none⟩), .int .i64 (G : Int), .string (strOfNums base), .slice p t.r.recs.length c, .int .i64 t.file, .int .i64 t.kept]) := hA6
                  have HC6 : Hid (Ch (fun j => j = gx) w4 w6) := hc6
                  have HCW : Hid (Ch (fun j => j = g ∨ j = gx) w w6) := hcw6
                  have HGL : Hid (gx < w6.heap.size ∧ g < w6.heap.size) := ⟨Nat.lt_of_lt_of_le hgx4 hc6.size, Nat.lt_of_lt_of_le hgg4 hc6.size⟩
                  clear hA4 hA5 hA6 hc5 hc56 hc6 hcw6 hgx4 hgg4
                  go_wp2_with (refine wpList_appVs _ rfl (.tmp 104) (.tmp 105) 49 rfl 9 i0 (.string ByteArray.empty) 16 Tryz.underlying49 hi0 hz0 hz1 hz2 rfl w6.heap.size (some ⟨w6.heap.size, 0, none⟩) 0 0 [] rfl (OwV.empty _ _ _ _) pl nl cl (strs recs) rfl hpl6 (strs_one recs) ?b1 ?b2 ?b3 ?_)
                  case b1 => omega
                  case b2 => unfold maxLen; omega
                  case b3 => simp
                  intro p7 c7 w7 hO7 hb7
                  have hb67 : Below w6.heap.size w6 w7 := (below_alloc _ _).trans hb7
                  have hA7 := HA6.out.below hb67
                  have c3 := hA7.cell 3
                  have f3 := hA7.free 3
                  obtain ⟨w8, hW8⟩ : ∃ z, w7.setCell ⟨gx, 3, none⟩ (.slice p7 nl c7) = z := ⟨_, rfl⟩
                  have hA8 : At 87 w8 gx #[.pointer (some ⟨g, 0, none⟩), .int .i64 (G : Int), .string (strOfNums base), .slice p7 nl c7, .int .i64 t.file, .int .i64 t.kept] := by rw [← hW8]; exact hA7.set 3 _
                  have hc8 : Ch (fun j => j = gx) w7 w8 := by rw [← hW8]; exact Ch.setCell w7 ⟨gx, 3, none⟩ _
                  have c4 := hA8.cell 4
                  have f4 := hA8.free 4
                  obtain ⟨w9, hW9⟩ : ∃ z, w8.setCell ⟨gx, 4, none⟩ (.int .i64 fo) = z := ⟨_, rfl⟩
                  have hA9 : At 87 w9 gx #[.pointer (some ⟨g, 0, none⟩), .int .i64 (G : Int), .string (strOfNums base), .slice p7 nl c7, .int .i64 fo, .int .i64 t.kept] := by rw [← hW9]; exact hA8.set 4 _
                  have hc9 : Ch (fun j => j = gx) w8 w9 := by rw [← hW9]; exact Ch.setCell w8 ⟨gx, 4, none⟩ _
                  have c5 := hA9.cell 5
                  have f5 := hA9.free 5
                  obtain ⟨w10, hW10⟩ : ∃ z, w9.setCell ⟨gx, 5, none⟩ (.int .i64 nl) = z := ⟨_, rfl⟩
                  have hA10 : At 87 w10 gx #[.pointer (some ⟨g, 0, none⟩), .int .i64 (G : Int), .string (strOfNums base), .slice p7 nl c7, .int .i64 fo, .int .i64 nl] := by rw [← hW10]; exact hA9.set 5 _
                  have hc10 : Ch (fun j => j = gx) w7 w10 := (hc8.trans hc9).trans (by rw [← hW10]; exact Ch.setCell w9 ⟨gx, 5, none⟩ _)
                  have hfr : ∀ x, p7 = some x → 0 < nl → w6.heap.size ≤ x.block := fun x e h0 => (hO7.ltC x e (Nat.lt_of_lt_of_le h0 hO7.cap)).1
                  have hR10 : RdV w10 p7 nl c7 (strs recs) := hO7.rd.ch0 hc10 (fun x e h0 h => by have := hfr x e h0; have := HGL.out.1; omega)
                  have HR : Hid (RSv w w10 g gx F m4 ⟨fo, recs.length, ⟨t.r.gen + 1, base, recs⟩⟩) := by
                    refine ⟨k4, p7, c7, HX4.out.saved (HC6.out.trans ((Ch.of_below hb67 _).trans hc10)) p7 c7 ?_ ?_ ?_ ?_, HCW.out.trans ((Ch.of_below hb67 _).trans (hc10.mono fun _ _ e => Or.inr e))⟩
                    · dsimp only
                      rw [← HN.out, HGe.out]
                      exact hA10
                    · dsimp only
                      rw [← HN.out]
                      exact hR10
                    · dsimp only
                      rw [← HN.out]
                      intro x e h0
                      have := hfr x e h0
                      have := HGL.out
                      omega
                    · dsimp only
                      rw [← HN.out]
                      exact fun x e h0 => HF.out _ (Nat.le_trans HCW.out.size (hfr x e h0))
                  clear hA7 hA8 hA9 hA10 hc8 hc9 hc10 hR10 hfr hO7 hb7 hb67
                  go_wp2_with fail
                  go_ret
                  unfold SvQ
                  rw [HSW.out]
                  exact ⟨rfl, HR.out⟩
                · have hzb : (c4e != 0) = true := by simpa using hz
                  have HR : Hid (RSv w w4 g gx F m4 t) := HX4.out.sv HC4.out
                  have HSW : Hid (svT m t base recs = (c4e, m4, t)) := by
                    show _ = _
                    rw [HSV.out, HW.out]
                    dsimp only
                    rw [if_neg hz]
                  clear HSV HW hz
                  go_wp2_with fail
                  go_ret
                  unfold SvQ
                  rw [HSW.out]
                  exact ⟨rfl, HR.out⟩

end Go.Proofs.YtpjhadaiodnnaaaGreat.M
end

section
namespace Go.Proofs.YtpjhadaiodnnaaaGreat.M
open Go.ChangeShapes Go.WideShapes Go.ChangeAt Go.RowKit
set_option linter.unusedSimpArgs false

theorem scT_ge (f : Nat → List Int) : ∀ k, 0 ≤ (scT f k).2.1.gen ∧ ((scT f k).2.1.gen = 0 → (scT f k).2.2 = false)
  | 0 => ⟨Int.le_refl _, fun _ => rfl⟩
  | k + 1 => by
    have h := scT_ge f k
    rw [scT]
    split
    · rename_i h1
      exact ⟨by show 0 ≤ (ldR (f k)).1.gen; omega, fun e => by have e : (ldR (f k)).1.gen = 0 := e; omega⟩
    · exact h

/-- The document's tape that is being opened. -/
structure QI (w wr : World) (g gx file kept : Nat) (r : PR) (p : Option Addr) (c : Nat) : Prop where
  hb : Below w.heap.size w wr
  blk : At 87 wr gx #[.pointer (some ⟨g, 0, none⟩), .int .i64 r.gen, .string (strOfNums r.base), .slice p r.recs.length c, .int .i64 file, .int .i64 kept]
  rcs : RdV wr p r.recs.length c (strs r.recs)
  fr : ∀ x, p = some x → 0 < r.recs.length → w.heap.size < x.block
  ge : gx = w.heap.size

theorem QI.below {w wr wr' : World} {g gx file kept : Nat} {r : PR} {p : Option Addr} {c : Nat} (h : QI w wr g gx file kept r p c) (hb : Below wr.heap.size wr wr') : QI w wr' g gx file kept r p c :=
  ⟨h.hb.trans (hb.mono h.hb.size), h.blk.below hb, h.rcs.below hb, h.fr, h.ge⟩

theorem QI.set {w wr wr' : World} {g gx file kept file2 kept2 : Nat} {r r2 : PR} {p p2 : Option Addr} {c c2 : Nat} (h : QI w wr g gx file kept r p c) (hc : Ch (fun j => j = gx) wr wr')
    (hA : At 87 wr' gx #[.pointer (some ⟨g, 0, none⟩), .int .i64 r2.gen, .string (strOfNums r2.base), .slice p2 r2.recs.length c2, .int .i64 file2, .int .i64 kept2])
    (hR : RdV wr p2 r2.recs.length c2 (strs r2.recs)) (hf : ∀ x, p2 = some x → 0 < r2.recs.length → w.heap.size < x.block) : QI w wr' g gx file2 kept2 r2 p2 c2 :=
  ⟨h.hb.trans (hc.below h.hb.size (fun j e => by have := h.ge; omega)), hA, hR.ch0 hc (fun x e h0 h2 => by have := hf x e h0; have := h.ge; omega), hf, h.ge⟩

theorem RSv.below {w w' w'' : World} {g gx : Nat} {F : Nat → Prop} {m : PD} {t : TP} (h : RSv w w' g gx F m t) (hb : Below w'.heap.size w' w'') : RSv w w'' g gx F m t := by
  obtain ⟨k, p, c, h1, h2⟩ := h
  exact ⟨k, p, c, h1.below hb, h2.trans (Ch.of_below hb _)⟩

theorem RSv.before {w0 w w' : World} {g gx : Nat} {F : Nat → Prop} {m : PD} {t : TP} (h : RSv w w' g gx F m t) (hb : Below w0.heap.size w0 w) : RSv w0 w' g gx F m t := by
  obtain ⟨k, p, c, h1, h2⟩ := h
  exact ⟨k, p, c, h1, (Ch.of_below hb _).trans h2⟩

theorem RSv.opn {w w2 w' : World} {g gx : Nat} {F : Nat → Prop} {m : PD} {t : TP} (h : RSv w2 w' g gx F m t) (hb : Below w.heap.size w w2) (hx : w.heap.size ≤ gx) : (∃ k p c, RX w' g gx F m t k p c) ∧ Ch (fun j => j = g) w w' := by
  obtain ⟨k, p, c, h1, h2⟩ := h
  exact ⟨⟨k, p, c, h1⟩, (Ch.of_below hb _).then h2 (fun j hj e => e.elim id (fun e => by omega))⟩

/-- What Open leaves. -/
def ROpn (w : World) (g : Nat) (F : Nat → Prop) (S : Int × PD × TP) (e : Ending) (w' : World) : Prop := ∃ gx, e = .returned (.tuple #[opT S.1 gx, .int .i64 S.1]) ∧ w.heap.size ≤ gx ∧ (∃ k p c, RX w' g gx F S.2.1 S.2.2 k p c) ∧ Ch (fun j => j = g) w w'

set_option maxRecDepth 20000 in
set_option maxHeartbeats 4000000 in
theorem rOpen_S (w : World) (g : Nat) (F : Nat → Prop) (hF : ∀ j, w.heap.size ≤ j → F j) (m : PD) (k : Sl) (h : RD w g m k) (hfk : ∀ x, k.p = some x → 0 < k.n → F x.block) (s : Nat) (hm : m.ok s) (hs : s ≤ 1099511627) (hp : m.pre) (hw : m.down = false) (hBy : ∀ i, i < 2 → By (m.f i).told)
    (hf : (cnt m).1 ≤ 1) (hr : (cnt m).2.1.fit) (hgn : (cnt m).2.1.gen ≤ 1099511627776) (hfew : (cnt m).2.1.recs.length ≤ 1000000) (hsl : (sealR ⟨(cnt m).2.1.gen + 1, (cnt m).2.1.base, (cnt m).2.1.recs⟩).length ≤ 1099511627) :
    Calls Tryz.prog 9 #[.pointer (some ⟨g, 0, none⟩)] w (ROpn w g F (opM m)) := by
  have HF : Hid (∀ j, w.heap.size ≤ j → F j) := hF
  have HFK : Hid (∀ x, k.p = some x → 0 < k.n → F x.block) := hfk
  have HRD : Hid (RD w g m k) := h
  have hgl : g < w.heap.size := h.rc.lt
  have HM : Hid (m.ok s ∧ s ≤ 1099511627 ∧ m.pre ∧ m.down = false) := ⟨hm, hs, hp, hw⟩
  have HBY : Hid (∀ i, i < 2 → By (m.f i).told) := hBy
  have HFIT : Hid ((cnt m).1 ≤ 1 ∧ (cnt m).2.1.fit ∧ (cnt m).2.1.gen ≤ 1099511627776 ∧ (cnt m).2.1.recs.length ≤ 1000000) := ⟨hf, hr, hgn, hfew⟩
  have HSL : Hid ((sealR ⟨(cnt m).2.1.gen + 1, (cnt m).2.1.base, (cnt m).2.1.recs⟩).length ≤ 1099511627) := hsl
  have HLn : Hid (∀ i, i < 2 → (m.f i).told.length ≤ 1099511627) := fun i hi => Nat.le_trans (hm.told i (by omega)) hs
  clear hF hfk h hm hs hp hw hBy hf hr hgn hfew hsl
  obtain ⟨fT, HfT⟩ : ∃ z, Hid (z = fun i => (m.f i).told) := ⟨_, rfl⟩
  have HQ0 : Hid (QI w (w.alloc (.cells #[.pointer (some ⟨g, 0, none⟩), .int .i64 0, .string ⟨#[]⟩, .slice none 0 0, .int .i64 1, .int .i64 0] 87)) g w.heap.size 1 0 .z0 none 0) :=
    ⟨below_alloc _ _, At.new _ _ _, (OwV.empty 9 _ 0 none).rd, (fun x e => by cases e), rfl⟩
  go_enter Tryz.func9, Tryz.ntmps9
  go_wp2_with fail
  go_loopw [17, 5] (fun ix mo wr => ∃ (j : Nat) (mb : Bool) (p : Option Addr) (c : Nat), j ≤ 2 ∧ ix = .int .i64 j ∧ mo = .bool mb ∧ QI w wr g w.heap.size (scT fT j).1 0 (scT fT j).2.1 p c ∧ Hid ((scT fT j).2.1.gen ≠ 0 → mb = !(scT fT j).2.2)) (fun ix _ _ => 2 - (intOf ix).toNat)
  case atStart => exact ⟨0, false, none, 0, Nat.zero_le _, rfl, rfl, HQ0.out, fun h => absurd rfl h⟩
  case round =>
    obtain ⟨j, mb, p, c, hj, rfl, rfl, hQ, Hmb⟩ := hrel
    by_cases hj2 : j < 2
    · have hji : (j : Int) < 2 := by omega
      have h1 := rRead_by wr g m k (HRD.out.below hQ.hb).rc HM.out.2.2.2 j (by omega) (HBY.out j hj2)
      obtain ⟨n, Hn⟩ : ∃ z, Hid (z = (m.f j).told.length) := ⟨_, rfl⟩
      obtain ⟨xs, Hxs⟩ : ∃ z, Hid (z = (m.f j).told) := ⟨_, rfl⟩
      have HBx : Hid (By xs) := by rw [Hxs.out]; exact HBY.out j hj2
      have hn40 : n ≤ 1099511627776 := by rw [Hn.out]; have := HLn.out j hj2; omega
      rw [← Hn.out, ← Hxs.out] at h1
      have HQ : Hid (QI w wr g w.heap.size (scT fT j).1 0 (scT fT j).2.1 p c) := hQ
      have HST : Hid (scT fT (j + 1) = if (scT fT j).2.1.gen < (ldR xs).1.gen then (j, (ldR xs).1, (ldR xs).2) else scT fT j) := by
        show _ = _
        rw [scT, Hxs.out, HfT.out]
      clear hQ
      go_wp2_with fail
      refine h1.mono ?_
      rintro e w1 ⟨p1, c1, rfl, hO1, hb1, _⟩
      clear h1
      have h2 := reel_any w1 p1 n c1 xs hO1 HBx.out hn40
      have HQ1 : Hid (QI w w1 g w.heap.size (scT fT j).1 0 (scT fT j).2.1 p c) := HQ.out.below hb1
      clear hO1 hb1
      go_wp2_with fail
      refine h2.mono ?_
      intro e w2 hRe
      obtain ⟨p2, c2, rest, he, hO2, hrest, hb2⟩ := hRe
      subst he
      clear h2
      have HQ2 : Hid (QI w w2 g w.heap.size (scT fT j).1 0 (scT fT j).2.1 p c) := HQ1.out.below hb2
      have HO2 : Hid (RdV w2 p2 (ldR xs).1.recs.length c2 (strs (ldR xs).1.recs) ∧ ∀ x, p2 = some x → 0 < (ldR xs).1.recs.length → w.heap.size < x.block) := ⟨hO2.rd, fun x e h0 => by
        have h3 := (hO2.ltC x e (Nat.lt_of_lt_of_le h0 hO2.cap)).1
        have h4 := HQ1.out.blk.lt
        omega⟩
      have HRest : Hid ((ldR xs).1.gen ≠ 0 → rest = !(ldR xs).2) := hrest
      clear hO2 hrest hb2
      have HGE : Hid (0 ≤ (scT fT j).2.1.gen) := (scT_ge fT j).1
      have c1 := HQ2.out.blk.cell 1
      by_cases hgt : (scT fT j).2.1.gen < (ldR xs).1.gen
      · have HS : Hid (scT fT (j + 1) = (j, (ldR xs).1, (ldR xs).2)) := by show _ = _; rw [HST.out, if_pos hgt]
        have HRs : Hid (rest = !(ldR xs).2) := HRest.out (by have := HGE.out; omega)
        clear HST HRest
        obtain ⟨r0, Hr0⟩ : ∃ z, Hid (z = (scT fT j).2.1) := ⟨_, rfl⟩
        obtain ⟨f0, Hf0⟩ : ∃ z, Hid (z = (scT fT j).1) := ⟨_, rfl⟩
        obtain ⟨r2, Hr2⟩ : ∃ z, Hid (z = (ldR xs).1) := ⟨_, rfl⟩
        rw [← Hr0.out, ← Hf0.out] at HQ2
        rw [← Hr0.out] at c1 hgt
        rw [← Hr2.out] at HO2 hgt HS ⊢
        obtain ⟨nr, Hnr⟩ : ∃ z, Hid (z = r2.recs.length) := ⟨_, rfl⟩
        rw [← Hnr.out]
        have hA2 := HQ2.out.blk
        have f1 := hA2.free 1
        obtain ⟨w3, hW3⟩ : ∃ z, w2.setCell ⟨w.heap.size, 1, none⟩ (.int .i64 r2.gen) = z := ⟨_, rfl⟩
        have hA3 : At 87 w3 w.heap.size #[.pointer (some ⟨g, 0, none⟩), .int .i64 r2.gen, .string (strOfNums r0.base), .slice p r0.recs.length c, .int .i64 f0, .int .i64 (0 : Nat)] := by rw [← hW3]; exact hA2.set 1 _
        have hc3 : Ch (fun j => j = w.heap.size) w2 w3 := by rw [← hW3]; exact Ch.setCell w2 ⟨w.heap.size, 1, none⟩ _
        have c2' := hA3.cell 2
        have f2 := hA3.free 2
        obtain ⟨w4, hW4⟩ : ∃ z, w3.setCell ⟨w.heap.size, 2, none⟩ (.string (strOfNums r2.base)) = z := ⟨_, rfl⟩
        have hA4 : At 87 w4 w.heap.size #[.pointer (some ⟨g, 0, none⟩), .int .i64 r2.gen, .string (strOfNums r2.base), .slice p r0.recs.length c, .int .i64 f0, .int .i64 (0 : Nat)] := by rw [← hW4]; exact hA3.set 2 _
        have hc4 : Ch (fun j => j = w.heap.size) w3 w4 := by rw [← hW4]; exact Ch.setCell w3 ⟨w.heap.size, 2, none⟩ _
        have c3 := hA4.cell 3
        have f3 := hA4.free 3
        obtain ⟨w5, hW5⟩ : ∃ z, w4.setCell ⟨w.heap.size, 3, none⟩ (.slice p2 nr c2) = z := ⟨_, rfl⟩
        have hA5 : At 87 w5 w.heap.size #[.pointer (some ⟨g, 0, none⟩), .int .i64 r2.gen, .string (strOfNums r2.base), .slice p2 nr c2, .int .i64 f0, .int .i64 (0 : Nat)] := by rw [← hW5]; exact hA4.set 3 _
        have hc5 : Ch (fun j => j = w.heap.size) w4 w5 := by rw [← hW5]; exact Ch.setCell w4 ⟨w.heap.size, 3, none⟩ _
        have c4 := hA5.cell 4
        have f4 := hA5.free 4
        obtain ⟨w6, hW6⟩ : ∃ z, w5.setCell ⟨w.heap.size, 4, none⟩ (.int .i64 (j : Int)) = z := ⟨_, rfl⟩
        have hA6 : At 87 w6 w.heap.size #[.pointer (some ⟨g, 0, none⟩), .int .i64 r2.gen, .string (strOfNums r2.base), .slice p2 nr c2, .int .i64 j, .int .i64 (0 : Nat)] := by rw [← hW6]; exact hA5.set 4 _
        have hc6 : Ch (fun j => j = w.heap.size) w5 w6 := by rw [← hW6]; exact Ch.setCell w5 ⟨w.heap.size, 4, none⟩ _
        have HQ6 : Hid (QI w w6 g w.heap.size j 0 r2 p2 c2) := HQ2.out.set (((hc3.trans hc4).trans hc5).trans hc6) (by rw [← Hnr.out]; exact hA6) HO2.out.1 HO2.out.2
        clear hA2 hA3 hA4 hA5 hA6 hc3 hc4 hc5 hc6
        go_wp2_with fail
        go_roundw
        case rel => exact ⟨j + 1, rest, p2, c2, by omega, by go_num, rfl, by rw [HS.out]; exact HQ6.out, by rw [HS.out]; exact fun _ => HRs.out⟩
        case measure => simp [intOf]; omega
      · have HS : Hid (scT fT (j + 1) = scT fT j) := by show _ = _; rw [HST.out, if_neg hgt]
        clear HST HRest
        go_wp2_with fail
        go_roundw
        case rel => exact ⟨j + 1, mb, p, c, by omega, by go_num, rfl, by rw [HS.out]; exact HQ2.out, by rw [HS.out]; exact Hmb.out⟩
        case measure => simp [intOf]; omega
    · have hji : ¬ (j : Int) < 2 := by omega
      obtain rfl : j = 2 := by omega
      have HGE := scT_ge fT 2
      have HC : Hid (scT fT 2 = cnt m) := by show _ = _; rw [HfT.out]; rfl
      rw [HC.out] at hQ Hmb HGE
      obtain ⟨r, Hr⟩ : ∃ z, Hid (z = (cnt m).2.1) := ⟨_, rfl⟩
      obtain ⟨fi, Hfi⟩ : ∃ z, Hid (z = (cnt m).1) := ⟨_, rfl⟩
      obtain ⟨wh, Hwh⟩ : ∃ z, Hid (z = (cnt m).2.2) := ⟨_, rfl⟩
      obtain ⟨nr, Hnr⟩ : ∃ z, Hid (z = r.recs.length) := ⟨_, rfl⟩
      have HOP : Hid (opM m = if wh = true then (0, m, ⟨fi, nr, r⟩) else svT m ⟨fi, nr, r⟩ r.base r.recs) := by show _ = _; rw [Hnr.out, Hwh.out, Hfi.out, Hr.out]; rfl
      rw [← Hr.out, ← Hfi.out] at hQ
      rw [← Hr.out, ← Hwh.out] at Hmb HGE
      rw [← Hr.out, ← Hfi.out] at HFIT
      rw [← Hr.out] at HSL
      have HG0 : Hid (r.gen = 0 → wh = false) := HGE.2
      have hg0 : 0 ≤ r.gen := HGE.1
      clear HGE HC
      have hA1 := hQ.blk
      have c3 := hA1.cell 3
      rw [← Hnr.out] at c3
      have c5 := hA1.cell 5
      have f5 := hA1.free 5
      obtain ⟨w2, hW2⟩ : ∃ z, wr.setCell ⟨w.heap.size, 5, none⟩ (.int .i64 (nr : Int)) = z := ⟨_, rfl⟩
      have hA2 : At 87 w2 w.heap.size #[.pointer (some ⟨g, 0, none⟩), .int .i64 r.gen, .string (strOfNums r.base), .slice p r.recs.length c, .int .i64 fi, .int .i64 nr] := by rw [← hW2]; exact hA1.set 5 _
      have hc2 : Ch (fun j => j = w.heap.size) wr w2 := by rw [← hW2]; exact Ch.setCell wr ⟨w.heap.size, 5, none⟩ _
      have hQ2 : QI w w2 g w.heap.size fi nr r p c := hQ.set hc2 hA2 hQ.rcs hQ.fr
      have c1 := hA2.cell 1
      have HX : Hid (∀ V, Bl w2 V → RX V g w.heap.size F m ⟨fi, nr, r⟩ k p c ∧ Below w.heap.size w V) := fun V hV => by
        have hQV := hQ2.below (Bl.out' hV)
        refine ⟨⟨HRD.out.below hQV.hb, ⟨hQV.blk, hQV.rcs, fun x e h0 => ?_, ?_⟩, fun x e h0 => ?_, HFK.out, fun x e h0 => ?_⟩, hQV.hb⟩
        · have := hQV.fr x e h0; omega
        · omega
        · have := HRD.out.keep.ltb x e h0; omega
        · exact HF.out _ (Nat.le_of_lt (hQV.fr x e h0))
      have HC2 : Hid (w2.cell? ⟨w.heap.size, 2, none⟩ = some (.string (strOfNums r.base))) := hA2.cell 2
      have HC3 : Hid (w2.cell? ⟨w.heap.size, 3, none⟩ = some (.slice p nr c)) := by rw [Hnr.out]; exact hA2.cell 3
      have HRC : Hid (∀ V, Bl w2 V → RdV V p nr c (strs r.recs) ∧ ∀ x, p = some x → 0 < nr → x.block ≠ g ∧ x.block ≠ w.heap.size) := fun V hV => by
        rw [Hnr.out]
        have hQV := hQ2.below (Bl.out' hV)
        exact ⟨hQV.rcs, fun x e h0 => by have := hQV.fr x e h0; omega⟩
      clear hA1 hA2 hc2 hQ hQ2
      cases wh with
      | true =>
        have hgz : (r.gen == 0) = false := by
          have h1 : r.gen ≠ 0 := fun e => by have := HG0.out e; cases this
          simpa using h1
        have hmb : mb = false := by have h1 := Hmb.out (fun e => by have := HG0.out e; cases this); rw [h1]; rfl
        subst hmb
        have HO : Hid (opM m = (0, m, ⟨fi, nr, r⟩)) := by show _ = _; rw [HOP.out, if_pos rfl]
        clear HOP
        have HX2 := HX.out w2 (Below.refl _ _)
        have HZ : Hid (RX w2 g w.heap.size F m ⟨fi, nr, r⟩ k p c ∧ Below w.heap.size w w2) := HX2
        clear HX2 Hmb
        go_wp2_with fail
        go_ret2
        unfold ROpn
        rw [HO.out]
        exact ⟨w.heap.size, rfl, Nat.le_refl _, ⟨k, p, c, HZ.out.1⟩, Ch.of_below HZ.out.2 _⟩
      | false =>
        have HO : Hid (opM m = svT m ⟨fi, nr, r⟩ r.base r.recs) := by show _ = _; rw [HOP.out, if_neg (by decide)]
        clear HOP
        by_cases hgz0 : r.gen = 0
        · have hgz : (r.gen == 0) = true := by simpa using hgz0
          have hgz1 : r.gen = 0 := hgz0
          rw [hgz1] at c1
          clear hgz0 Hmb
          have HZ0 : Hid (r.gen = 0) := hgz1
          clear hgz1 hgz
          go_wp2_with fail
          have hS8 : Bl w2 w2.drew := (Below.refl _ _).drew
          refine wp_region_dyn [0, 1, 2, 3, 4, 5, 6, 7, 8] (Bl w2) (Bl w2) (by kernel_rfl) hS8 ?_
          clear hS8
          refine wpDyn_take ?vP0 (Bl.stays w2) (fun _ h => h) (i := 0) rfl (by kernel_rfl) (by kernel_rfl) (by kernel_rfl) (by kernel_rfl) (by kernel_rfl) (fun _ _ _ h => h) (Gives.value (by rfl) ?yP0) ?rP0
          case yP0 => (intro w' hSw; go_simp; try with_reducible rfl)
          (try simp only [Act.put, List.getElem_toArray, List.getElem_cons_zero, List.getElem_cons_succ, List.setIfInBounds_toArray, List.set_cons_zero, List.set_cons_succ])
          refine wpDyn_take ?vP1 (Bl.stays w2) (fun _ h => h) (i := 1) rfl (by kernel_rfl) (by kernel_rfl) (by kernel_rfl) (by kernel_rfl) (by kernel_rfl) (fun _ _ _ h => h) (Gives.value (by rfl) ?yP1) ?rP1
          case yP1 => (intro w' hSw; go_simp; try with_reducible rfl)
          (try simp only [Act.put, List.getElem_toArray, List.getElem_cons_zero, List.getElem_cons_succ, List.setIfInBounds_toArray, List.set_cons_zero, List.set_cons_succ])
          refine wpDyn_take ?vP2 (Bl.stays w2) (fun _ h => h) (i := 2) rfl (by kernel_rfl) (by kernel_rfl) (by kernel_rfl) (by kernel_rfl) (by kernel_rfl) (fun _ _ _ h => h) (Gives.value (by rfl) ?yP2) ?rP2
          case yP2 => (intro w' hSw; go_simp; try with_reducible rfl)
          (try simp only [Act.put, List.getElem_toArray, List.getElem_cons_zero, List.getElem_cons_succ, List.setIfInBounds_toArray, List.set_cons_zero, List.set_cons_succ])
          refine wpDyn_take ?vP3 (Bl.stays w2) (fun _ h => h) (i := 3) rfl (by kernel_rfl) (by kernel_rfl) (by kernel_rfl) (by kernel_rfl) (by kernel_rfl) (fun _ _ _ h => h) (Gives.value (by rfl) ?yP3) ?rP3
          case yP3 => (intro w' hSw; go_simp; try with_reducible rfl)
          (try simp only [Act.put, List.getElem_toArray, List.getElem_cons_zero, List.getElem_cons_succ, List.setIfInBounds_toArray, List.set_cons_zero, List.set_cons_succ])
          refine wpDyn_take ?vP4 (Bl.stays w2) (fun _ h => h) (i := 4) rfl (by kernel_rfl) (by kernel_rfl) (by kernel_rfl) (by kernel_rfl) (by kernel_rfl) (fun _ _ _ h => h) (Gives.value (by rfl) ?yP4) ?rP4
          case yP4 => (intro w' hSw; have hcl := cell_below (Bl.out' hSw) HC2.out; clear hSw; go_simp; try with_reducible rfl)
          (try simp only [Act.put, List.getElem_toArray, List.getElem_cons_zero, List.getElem_cons_succ, List.setIfInBounds_toArray, List.set_cons_zero, List.set_cons_succ])
          refine wpDyn_take ?vP5 (Bl.stays w2) (fun _ h => h) (i := 5) rfl (by kernel_rfl) (by kernel_rfl) (by kernel_rfl) (by kernel_rfl) (by kernel_rfl) (fun _ _ _ h => h) (Gives.value (by rfl) ?yP5) ?rP5
          case yP5 => (intro w' hSw; go_simp; try with_reducible rfl)
          (try simp only [Act.put, List.getElem_toArray, List.getElem_cons_zero, List.getElem_cons_succ, List.setIfInBounds_toArray, List.set_cons_zero, List.set_cons_succ])
          refine wpDyn_take ?vP6 (Bl.stays w2) (fun _ h => h) (i := 6) rfl (by kernel_rfl) (by kernel_rfl) (by kernel_rfl) (by kernel_rfl) (by kernel_rfl) (fun _ _ _ h => h) (Gives.value (by rfl) ?yP6) ?rP6
          case yP6 => (intro w' hSw; go_simp; try with_reducible rfl)
          (try simp only [Act.put, List.getElem_toArray, List.getElem_cons_zero, List.getElem_cons_succ, List.setIfInBounds_toArray, List.set_cons_zero, List.set_cons_succ])
          refine wpDyn_take ?vP7 (Bl.stays w2) (fun _ h => h) (i := 7) rfl (by kernel_rfl) (by kernel_rfl) (by kernel_rfl) (by kernel_rfl) (by kernel_rfl) (fun _ _ _ h => h) (Gives.value (by rfl) ?yP7) ?rP7
          case yP7 => (intro w' hSw; go_simp; try with_reducible rfl)
          (try simp only [Act.put, List.getElem_toArray, List.getElem_cons_zero, List.getElem_cons_succ, List.setIfInBounds_toArray, List.set_cons_zero, List.set_cons_succ])
          refine wpDyn_take ?vP8 (Bl.stays w2) (fun _ h => h) (i := 8) rfl (by kernel_rfl) (by kernel_rfl) (by kernel_rfl) (by kernel_rfl) (by kernel_rfl) (fun _ _ _ h => h) (Gives.value (by rfl) ?yP8) ?rP8
          case yP8 => (intro w' hSw; have hcl := cell_below (Bl.out' hSw) HC3.out; clear hSw; go_simp; try with_reducible rfl)
          (try simp only [Act.put, List.getElem_toArray, List.getElem_cons_zero, List.getElem_cons_succ, List.setIfInBounds_toArray, List.set_cons_zero, List.set_cons_succ])
          refine wpDyn_ready (rs := [9]) (by kernel_rfl) (by simp) (AllDyn.cons rfl (fun V hV K hK => ?_) AllDyn.nil)
          rw [if_pos (by rfl)]
          obtain ⟨hXV, hBV⟩ := HX.out V hV
          have hC := rSave_any V g w.heap.size F (fun j h => HF.out j (Nat.le_trans hBV.size h)) m ⟨fi, nr, r⟩ k p c hXV s HM.out.1 HM.out.2.1 HM.out.2.2.1 HM.out.2.2.2 HFIT.out.1 ⟨hg0, HFIT.out.2.2.1⟩ r.base HFIT.out.2.1.base.2 p nr c r.recs (HRC.out V hV).1 (HRC.out V hV).2 HFIT.out.2.2.2 (fun i hi => (HFIT.out.2.1.recs i hi).1) HSL.out
          refine wp_enterX 15 #[.pointer (some ⟨w.heap.size, 0, none⟩), .string (strOfNums r.base), .slice p nr c] (by first | (go_simp; done) | (go_simp; rfl)) (fun v V' => v = .int .i64 (svT m ⟨fi, nr, r⟩ r.base r.recs).1 ∧ RSv V V' g w.heap.size F (svT m ⟨fi, nr, r⟩ r.base r.recs).2.1 (svT m ⟨fi, nr, r⟩ r.base r.recs).2.2) (hC.mono fun e V' h => ⟨_, h.1, rfl, h.2⟩) ?_
          rintro v V1 ⟨rfl, hP⟩
          refine hK.out (fun W => RSv w2 W g w.heap.size F (svT m ⟨fi, nr, r⟩ r.base r.recs).2.1 (svT m ⟨fi, nr, r⟩ r.base r.recs).2.2) _ _ (fun _ _ h hb => h.below hb) (no_leanT (by kernel_rfl)) (hP.before (Bl.out' hV)) ?_
          clear hK K hV hC hP hXV hBV
          (try simp only [Act.put, List.getElem_toArray, List.getElem_cons_zero, List.getElem_cons_succ, List.setIfInBounds_toArray, List.set_cons_zero, List.set_cons_succ])
          obtain ⟨cz, Hcz⟩ : ∃ z, Hid (z = (svT m ⟨fi, nr, r⟩ r.base r.recs).1) := ⟨_, rfl⟩
          rw [← Hcz.out]
          refine wpDyn_ready (rs := [10]) (by kernel_rfl) (by simp) (AllDyn.cons rfl (fun V hV K hK => ?_) AllDyn.nil)
          rw [if_pos (by rfl)]
          refine wp_value (.int .i64 cz) V (by first | (go_simp; done) | (go_simp; rfl)) ?_
          refine hK.out (fun W => RSv w2 W g w.heap.size F (svT m ⟨fi, nr, r⟩ r.base r.recs).2.1 (svT m ⟨fi, nr, r⟩ r.base r.recs).2.2) _ _ (fun _ _ h hb => h.below hb) (no_leanT (by kernel_rfl)) hV ?_
          clear hK K hV
          (try simp only [Act.put, List.getElem_toArray, List.getElem_cons_zero, List.getElem_cons_succ, List.setIfInBounds_toArray, List.set_cons_zero, List.set_cons_succ])
          refine wpDyn_done (by kernel_rfl) (fun W2 hW2 => ?_) _
          have HR : Hid (RSv w2 W2 g w.heap.size F (svT m ⟨fi, nr, r⟩ r.base r.recs).2.1 (svT m ⟨fi, nr, r⟩ r.base r.recs).2.2) := hW2
          have HB2 : Hid (Below w.heap.size w w2) := (HX.out w2 (Below.refl _ _)).2
          clear hW2
          by_cases hcz : cz = 0
          · subst hcz
            go_wp2_with fail
            go_ret2
            unfold ROpn
            rw [HO.out, ← Hcz.out]
            exact ⟨w.heap.size, rfl, Nat.le_refl _, HR.out.opn HB2.out (Nat.le_refl _)⟩
          · have hczb : (cz != 0) = true := by simpa using hcz
            go_wp2_with fail
            go_ret2
            unfold ROpn
            rw [HO.out, ← Hcz.out]
            exact ⟨w.heap.size, by unfold opT; rw [if_neg hcz]; rfl, Nat.le_refl _, HR.out.opn HB2.out (Nat.le_refl _)⟩
        · have hgz : (r.gen == 0) = false := by simpa using hgz0
          have hmb : mb = true := by have h1 := Hmb.out hgz0; rw [h1]; rfl
          subst hmb
          clear hgz0 Hmb
          go_wp2_with fail
          have hS8 : Bl w2 w2.drew := (Below.refl _ _).drew
          refine wp_region_dyn [0, 1, 2, 3, 4, 5, 6, 7, 8] (Bl w2) (Bl w2) (by kernel_rfl) hS8 ?_
          clear hS8
          refine wpDyn_take ?vR0 (Bl.stays w2) (fun _ h => h) (i := 0) rfl (by kernel_rfl) (by kernel_rfl) (by kernel_rfl) (by kernel_rfl) (by kernel_rfl) (fun _ _ _ h => h) (Gives.value (by rfl) ?yR0) ?rR0
          case yR0 => (intro w' hSw; go_simp; try with_reducible rfl)
          (try simp only [Act.put, List.getElem_toArray, List.getElem_cons_zero, List.getElem_cons_succ, List.setIfInBounds_toArray, List.set_cons_zero, List.set_cons_succ])
          refine wpDyn_take ?vR1 (Bl.stays w2) (fun _ h => h) (i := 1) rfl (by kernel_rfl) (by kernel_rfl) (by kernel_rfl) (by kernel_rfl) (by kernel_rfl) (fun _ _ _ h => h) (Gives.value (by rfl) ?yR1) ?rR1
          case yR1 => (intro w' hSw; go_simp; try with_reducible rfl)
          (try simp only [Act.put, List.getElem_toArray, List.getElem_cons_zero, List.getElem_cons_succ, List.setIfInBounds_toArray, List.set_cons_zero, List.set_cons_succ])
          refine wpDyn_take ?vR2 (Bl.stays w2) (fun _ h => h) (i := 2) rfl (by kernel_rfl) (by kernel_rfl) (by kernel_rfl) (by kernel_rfl) (by kernel_rfl) (fun _ _ _ h => h) (Gives.value (by rfl) ?yR2) ?rR2
          case yR2 => (intro w' hSw; go_simp; try with_reducible rfl)
          (try simp only [Act.put, List.getElem_toArray, List.getElem_cons_zero, List.getElem_cons_succ, List.setIfInBounds_toArray, List.set_cons_zero, List.set_cons_succ])
          refine wpDyn_take ?vR3 (Bl.stays w2) (fun _ h => h) (i := 3) rfl (by kernel_rfl) (by kernel_rfl) (by kernel_rfl) (by kernel_rfl) (by kernel_rfl) (fun _ _ _ h => h) (Gives.value (by rfl) ?yR3) ?rR3
          case yR3 => (intro w' hSw; go_simp; try with_reducible rfl)
          (try simp only [Act.put, List.getElem_toArray, List.getElem_cons_zero, List.getElem_cons_succ, List.setIfInBounds_toArray, List.set_cons_zero, List.set_cons_succ])
          refine wpDyn_take ?vR4 (Bl.stays w2) (fun _ h => h) (i := 4) rfl (by kernel_rfl) (by kernel_rfl) (by kernel_rfl) (by kernel_rfl) (by kernel_rfl) (fun _ _ _ h => h) (Gives.value (by rfl) ?yR4) ?rR4
          case yR4 => (intro w' hSw; have hcl := cell_below (Bl.out' hSw) HC2.out; clear hSw; go_simp; try with_reducible rfl)
          (try simp only [Act.put, List.getElem_toArray, List.getElem_cons_zero, List.getElem_cons_succ, List.setIfInBounds_toArray, List.set_cons_zero, List.set_cons_succ])
          refine wpDyn_take ?vR5 (Bl.stays w2) (fun _ h => h) (i := 5) rfl (by kernel_rfl) (by kernel_rfl) (by kernel_rfl) (by kernel_rfl) (by kernel_rfl) (fun _ _ _ h => h) (Gives.value (by rfl) ?yR5) ?rR5
          case yR5 => (intro w' hSw; go_simp; try with_reducible rfl)
          (try simp only [Act.put, List.getElem_toArray, List.getElem_cons_zero, List.getElem_cons_succ, List.setIfInBounds_toArray, List.set_cons_zero, List.set_cons_succ])
          refine wpDyn_take ?vR6 (Bl.stays w2) (fun _ h => h) (i := 6) rfl (by kernel_rfl) (by kernel_rfl) (by kernel_rfl) (by kernel_rfl) (by kernel_rfl) (fun _ _ _ h => h) (Gives.value (by rfl) ?yR6) ?rR6
          case yR6 => (intro w' hSw; go_simp; try with_reducible rfl)
          (try simp only [Act.put, List.getElem_toArray, List.getElem_cons_zero, List.getElem_cons_succ, List.setIfInBounds_toArray, List.set_cons_zero, List.set_cons_succ])
          refine wpDyn_take ?vR7 (Bl.stays w2) (fun _ h => h) (i := 7) rfl (by kernel_rfl) (by kernel_rfl) (by kernel_rfl) (by kernel_rfl) (by kernel_rfl) (fun _ _ _ h => h) (Gives.value (by rfl) ?yR7) ?rR7
          case yR7 => (intro w' hSw; go_simp; try with_reducible rfl)
          (try simp only [Act.put, List.getElem_toArray, List.getElem_cons_zero, List.getElem_cons_succ, List.setIfInBounds_toArray, List.set_cons_zero, List.set_cons_succ])
          refine wpDyn_take ?vR8 (Bl.stays w2) (fun _ h => h) (i := 8) rfl (by kernel_rfl) (by kernel_rfl) (by kernel_rfl) (by kernel_rfl) (by kernel_rfl) (fun _ _ _ h => h) (Gives.value (by rfl) ?yR8) ?rR8
          case yR8 => (intro w' hSw; have hcl := cell_below (Bl.out' hSw) HC3.out; clear hSw; go_simp; try with_reducible rfl)
          (try simp only [Act.put, List.getElem_toArray, List.getElem_cons_zero, List.getElem_cons_succ, List.setIfInBounds_toArray, List.set_cons_zero, List.set_cons_succ])
          refine wpDyn_ready (rs := [9]) (by kernel_rfl) (by simp) (AllDyn.cons rfl (fun V hV K hK => ?_) AllDyn.nil)
          rw [if_pos (by rfl)]
          obtain ⟨hXV, hBV⟩ := HX.out V hV
          have hC := rSave_any V g w.heap.size F (fun j h => HF.out j (Nat.le_trans hBV.size h)) m ⟨fi, nr, r⟩ k p c hXV s HM.out.1 HM.out.2.1 HM.out.2.2.1 HM.out.2.2.2 HFIT.out.1 ⟨hg0, HFIT.out.2.2.1⟩ r.base HFIT.out.2.1.base.2 p nr c r.recs (HRC.out V hV).1 (HRC.out V hV).2 HFIT.out.2.2.2 (fun i hi => (HFIT.out.2.1.recs i hi).1) HSL.out
          refine wp_enterX 15 #[.pointer (some ⟨w.heap.size, 0, none⟩), .string (strOfNums r.base), .slice p nr c] (by first | (go_simp; done) | (go_simp; rfl)) (fun v V' => v = .int .i64 (svT m ⟨fi, nr, r⟩ r.base r.recs).1 ∧ RSv V V' g w.heap.size F (svT m ⟨fi, nr, r⟩ r.base r.recs).2.1 (svT m ⟨fi, nr, r⟩ r.base r.recs).2.2) (hC.mono fun e V' h => ⟨_, h.1, rfl, h.2⟩) ?_
          rintro v V1 ⟨rfl, hP⟩
          refine hK.out (fun W => RSv w2 W g w.heap.size F (svT m ⟨fi, nr, r⟩ r.base r.recs).2.1 (svT m ⟨fi, nr, r⟩ r.base r.recs).2.2) _ _ (fun _ _ h hb => h.below hb) (no_leanT (by kernel_rfl)) (hP.before (Bl.out' hV)) ?_
          clear hK K hV hC hP hXV hBV
          (try simp only [Act.put, List.getElem_toArray, List.getElem_cons_zero, List.getElem_cons_succ, List.setIfInBounds_toArray, List.set_cons_zero, List.set_cons_succ])
          obtain ⟨cz, Hcz⟩ : ∃ z, Hid (z = (svT m ⟨fi, nr, r⟩ r.base r.recs).1) := ⟨_, rfl⟩
          rw [← Hcz.out]
          refine wpDyn_ready (rs := [10]) (by kernel_rfl) (by simp) (AllDyn.cons rfl (fun V hV K hK => ?_) AllDyn.nil)
          rw [if_pos (by rfl)]
          refine wp_value (.int .i64 cz) V (by first | (go_simp; done) | (go_simp; rfl)) ?_
          refine hK.out (fun W => RSv w2 W g w.heap.size F (svT m ⟨fi, nr, r⟩ r.base r.recs).2.1 (svT m ⟨fi, nr, r⟩ r.base r.recs).2.2) _ _ (fun _ _ h hb => h.below hb) (no_leanT (by kernel_rfl)) hV ?_
          clear hK K hV
          (try simp only [Act.put, List.getElem_toArray, List.getElem_cons_zero, List.getElem_cons_succ, List.setIfInBounds_toArray, List.set_cons_zero, List.set_cons_succ])
          refine wpDyn_done (by kernel_rfl) (fun W2 hW2 => ?_) _
          have HR : Hid (RSv w2 W2 g w.heap.size F (svT m ⟨fi, nr, r⟩ r.base r.recs).2.1 (svT m ⟨fi, nr, r⟩ r.base r.recs).2.2) := hW2
          have HB2 : Hid (Below w.heap.size w w2) := (HX.out w2 (Below.refl _ _)).2
          clear hW2
          by_cases hcz : cz = 0
          · subst hcz
            go_wp2_with fail
            go_ret2
            unfold ROpn
            rw [HO.out, ← Hcz.out]
            exact ⟨w.heap.size, rfl, Nat.le_refl _, HR.out.opn HB2.out (Nat.le_refl _)⟩
          · have hczb : (cz != 0) = true := by simpa using hcz
            go_wp2_with fail
            go_ret2
            unfold ROpn
            rw [HO.out, ← Hcz.out]
            exact ⟨w.heap.size, by unfold opT; rw [if_neg hcz]; rfl, Nat.le_refl _, HR.out.opn HB2.out (Nat.le_refl _)⟩

end Go.Proofs.YtpjhadaiodnnaaaGreat.M
end
