/-
  Own text: Versions, over what rising tells.
-/
import Derived.Test.YtmfmjoibofadlaaOVer
namespace Go.Proofs.Ytmfmjoibofadlaa.M
open Go.ChangeShapes Go.WideShapes Go.ChangeAt Go.RowKit Go.ChangeMaps Go.MapKept Go.Maps Go.Shelf Go.Proofs
set_option linter.unusedSimpArgs false

/-- A function that asks the members of a list. -/
def AsksL (F : FuncId) (caps : Array Value) (w : World) (fs : List Lo) (pr : Lo → Bool) : Prop :=
  ∀ k, k < fs.length → ∀ W : World, Below w.heap.size w W → Calls Try.prog F (#[.agg #[.bool (fs.getD k .z0).w, .string (fs.getD k .z0).s, .int .i64 (fs.getD k .z0).v, .int .i64 (fs.getD k .z0).b, .int .i64 (fs.getD k .z0).e]] ++ caps) W fun e w' => e = .returned (.bool (pr (fs.getD k .z0))) ∧ Below W.heap.size W w'

set_option maxRecDepth 20000 in
set_option maxHeartbeats 1000000 in
theorem indexL_any (F : FuncId) (hcf : Cf F) (caps : Array Value) (pr : Lo → Bool) (p : Option Addr) (n c : Nat) (fs : List Lo) (w : World) (hr : RdO w p n c fs) (hn : n ≤ 1099511627776) (hA : AsksL F caps w fs pr) :
    Calls Try.prog 42 #[.slice p n c, .func (.func F) #[] caps] w fun e w' => e = .returned (.int .i64 (ixM pr 0 fs)) ∧ Below w.heap.size w w' := by
  have hl := hr.len
  have hcf' : ∀ (args : Array Value) (w : World), (callFunc F args).run Try.prog w = .ok (.enter F args) w := hcf
  clear hcf
  go_enter Try.func42, Try.ntmps42
  go_wp2_with fail
  go_loopw [8] (fun i wr => ∃ k : Nat, k ≤ n ∧ i = .int .i64 k ∧ Hid (ixM pr 0 fs = ixM pr k (fs.drop k)) ∧ Below w.heap.size w wr) (fun i _ => n - (intOf i).toNat)
  case atStart => exact ⟨0, Nat.zero_le _, rfl, rfl, Below.refl _ _⟩
  case round =>
    obtain ⟨k, hk, rfl, HG, hb⟩ := hrel
    by_cases h : k < n
    · obtain ⟨b, o, rfl, hc⟩ := (hr.below hb).cells (by omega)
      obtain ⟨x1, x2, x3, x4, x5⟩ := hc k h
      have hk1 : (k : Int) < (n : Int) := by omega
      have hd := drop_lo (fs := fs) (k := k) (by omega)
      have hG2 := HG.out
      rw [hd] at hG2
      clear HG hd hc hr
      have hA2 := hA k (by omega) wr hb
      generalize fs.getD k .z0 = m at *
      obtain ⟨mw, mz, mv, mb, me⟩ := m
      dsimp only at x1 x2 x3 x4 x5 hA2
      have HG3 : Hid (ixM pr 0 fs = if pr ⟨mw, mz, mv, mb, me⟩ = true then (k : Int) else ixM pr (k + 1) (fs.drop (k + 1))) := hG2
      clear hG2
      generalize pr ⟨mw, mz, mv, mb, me⟩ = b1 at *
      go_wp2_with fail
      refine hA2.mono ?_
      rintro r w1 ⟨rfl, hb1⟩
      have hbb := hb.trans (hb1.mono hb.size)
      cases b1 with
      | true =>
        have HN : Hid (ixM pr 0 fs = (k : Int)) := by unfold Hid; rw [HG3.out]; rfl
        clear hA hA2 HG3
        go_wp2_with fail
        go_ret
        exact ⟨ret_int HN.out.symm, hbb⟩
      | false =>
        have HN : Hid (ixM pr 0 fs = ixM pr (k + 1) (fs.drop (k + 1))) := by unfold Hid; rw [HG3.out]; rfl
        clear hA2 HG3
        go_wp2_with fail
        go_roundw
        case rel => exact ⟨k + 1, by omega, by go_num, HN, hbb⟩
        case measure => simp [intOf]; omega
    · obtain rfl : k = n := by omega
      have HN : Hid (ixM pr 0 fs = -1) := by
        unfold Hid; rw [HG.out, List.drop_of_length_le (by omega)]; rfl
      clear hr HG hA
      go_wp2_with fail
      go_ret
      exact ⟨ret_int HN.out.symm, hb⟩

set_option maxRecDepth 20000 in
set_option maxHeartbeats 1000000 in
theorem containsL_any (F : FuncId) (hcf : Cf F) (caps : Array Value) (pr : Lo → Bool) (p : Option Addr) (n c : Nat) (fs : List Lo) (w : World) (hr : RdO w p n c fs) (hn : n ≤ 1099511627776) (hA : AsksL F caps w fs pr) :
    Calls Try.prog 21 #[.slice p n c, .func (.func F) #[] caps] w fun e w' => e = .returned (.bool (fs.any pr)) ∧ Below w.heap.size w w' := by
  have hI := indexL_any F hcf caps pr p n c fs w hr hn hA
  have HX : Hid (decide (0 ≤ ixM pr 0 fs) = fs.any pr) := ixM_any pr fs 0
  generalize ixM pr 0 fs = z at hI HX
  generalize fs.any pr = r at HX ⊢
  clear hr hA hcf
  go_enter Try.func21, Try.ntmps21
  go_wp2_with fail
  refine hI.mono ?_
  rintro e w1 ⟨rfl, hb⟩
  clear hI
  go_wp2_with fail
  go_ret
  exact ⟨ret_bool HX.out, hb⟩

/-- The write of a version among the first k. -/
def wmO (L : List Lo) : Nat → Int → Option Lo
  | 0, _ => none
  | k + 1, v => if plc (L.getD k .z0) = true ∧ (L.getD k .z0).v = v then some (L.getD k .z0) else wmO L k v

theorem wmO_next (L : List Lo) (k : Nat) (v : Int) : wmO L (k + 1) v = if plc (L.getD k .z0) = true ∧ (L.getD k .z0).v = v then some (L.getD k .z0) else wmO L k v := rfl

def wmF (L : List Lo) (k : Nat) (key : Value) : Option Value := match key with
  | .int .i64 v => (wmO L k v).map opV
  | _ => none

theorem wmO_none (L : List Lo) (v : Int) : ∀ k, wmO L k v = none → ∀ i, i < k → plc (L.getD i .z0) = true → (L.getD i .z0).v ≠ v
  | 0, _, i, hi, _ => by omega
  | k + 1, h, i, hi, hp => by
    unfold wmO at h
    split at h
    · cases h
    · rename_i hn
      by_cases e : i = k
      · subst e; exact fun hv => hn ⟨hp, hv⟩
      · exact wmO_none L v k h i (by omega) hp

theorem wmO_some (L : List Lo) (v : Int) {u : Lo} : ∀ k, wmO L k v = some u → ∃ j, j < k ∧ plc (L.getD j .z0) = true ∧ (L.getD j .z0).v = v ∧ u = L.getD j .z0
  | 0, h => by cases h
  | k + 1, h => by
    unfold wmO at h
    split at h
    · rename_i hn
      exact ⟨k, by omega, hn.1, hn.2, (Option.some.inj h).symm⟩
    · obtain ⟨j, h1, h2⟩ := wmO_some L v k h
      exact ⟨j, by omega, h2⟩

theorem wmF_same {L : List Lo} {k : Nat} (h : plc (L.getD k .z0) = false) : wmF L (k + 1) = wmF L k := by
  funext key
  unfold wmF
  split
  · rw [wmO_next, if_neg (by rw [h]; simp)]
  · rfl

theorem wmF_key {L : List Lo} {k : Nat} (h : plc (L.getD k .z0) = true) : wmF L (k + 1) (.int .i64 (L.getD k .z0).v) = some (opV (L.getD k .z0)) := by
  show (wmO L (k + 1) _).map opV = _
  unfold wmO
  rw [if_pos ⟨h, rfl⟩]
  rfl

theorem wmF_other {L : List Lo} {k : Nat} (x : Value) (hx : x ≠ .int .i64 (L.getD k .z0).v) : wmF L (k + 1) x = wmF L k x := by
  unfold wmF
  split
  · rename_i v
    rw [wmO_next, if_neg fun e => hx (by rw [e.2])]
  · rfl

/-- Of the first k, one write a version. -/
def oneK (L : List Lo) (k : Nat) : Prop := ∀ i j, i < k → j < k → plc (L.getD i .z0) = true → plc (L.getD j .z0) = true → (L.getD i .z0).v = (L.getD j .z0).v → i = j

theorem oneK_same {L : List Lo} {k : Nat} (h : oneK L k) (hp : plc (L.getD k .z0) = false) : oneK L (k + 1) := fun i j hi hj hpi hpj hv => by
  have h1 : i ≠ k := fun e => by rw [e, hp] at hpi; cases hpi
  have h2 : j ≠ k := fun e => by rw [e, hp] at hpj; cases hpj
  exact h i j (by omega) (by omega) hpi hpj hv

theorem oneK_new {L : List Lo} {k : Nat} (h : oneK L k) (hn : wmO L k (L.getD k .z0).v = none) : oneK L (k + 1) := fun i j hi hj hpi hpj hv => by
  have hN := wmO_none L _ k hn
  by_cases h1 : i = k
  · by_cases h2 : j = k
    · omega
    · rw [h1] at hv
      exact absurd hv.symm (hN j (by omega) hpj)
  · by_cases h2 : j = k
    · rw [h2] at hv
      exact absurd hv (hN i (by omega) hpi)
    · exact h i j (by omega) (by omega) hpi hpj hv

/-- What is so of all calls of which none is wrong. -/
def toldO (L : List Lo) : Prop := ∀ i, i < L.length → (L.getD i .z0).ans = true → plc (L.getD i .z0) = false → (L.getD i .z0).w = false ∧ heardO L (L.getD i .z0)

theorem told_of {L : List Lo} (h : L.any (fun o => wrongB (wmO L L.length o.v) o) = false) : toldO L := fun i hi ha hp => by
  have h1 := List.any_eq_false.1 h (L.getD i .z0) (by rw [List.getD_eq_getElem?_getD, List.getElem?_eq_getElem hi]; exact List.getElem_mem _)
  unfold wrongB at h1
  rw [ha, hp] at h1
  simp only [Bool.not_false, Bool.true_and, Bool.or_eq_true, not_or, Bool.not_eq_true, Bool.not_eq_eq_eq_not, Bool.not_not] at h1
  obtain ⟨h2, h3⟩ := h1
  refine ⟨h2, ?_⟩
  have h4 : hrdB (wmO L L.length (L.getD i .z0).v) (L.getD i .z0) = true := by simpa using h3
  unfold hrdB at h4
  by_cases h0 : (L.getD i .z0).v = 0
  · rw [if_pos h0] at h4
    exact Or.inl ⟨h0, List.isEmpty_iff.1 h4⟩
  · rw [if_neg h0] at h4
    cases hm : wmO L L.length (L.getD i .z0).v with
    | none => rw [hm] at h4; cases h4
    | some u =>
      rw [hm] at h4
      obtain ⟨j, h5, h6, h7, rfl⟩ := wmO_some L _ _ hm
      have h8 : ((L.getD j .z0).s.toList == (L.getD i .z0).s.toList) = true ∧ decide ((L.getD j .z0).b < (L.getD i .z0).e) = true := by
        have : (((L.getD j .z0).s.toList == (L.getD i .z0).s.toList) && decide ((L.getD j .z0).b < (L.getD i .z0).e)) = true := h4
        exact Bool.and_eq_true_iff.1 this
      exact Or.inr ⟨j, h5, h6, h7, by simpa using h8.1, of_decide_eq_true h8.2⟩

def risO (L : List Lo) : Prop := ∀ i j, i < L.length → j < L.length → cntO (L.getD i .z0) = true → cntO (L.getD j .z0) = true → (L.getD i .z0).v < (L.getD j .z0).v → bfr (L.getD j .z0) (L.getD i .z0) = false

theorem expl_of {L : List Lo} {row : List Nat} (hB : ByRow L row) (h1 : oneK L L.length) (h2 : toldO L) (h3 : risO L) : Expl L row :=
  ⟨h1, h2, List.Pairwise.imp_of_mem (R := lessO L) (fun {a b} ha hb _ hv => h3 a b ((hB.mem a).1 ha).1 ((hB.mem b).1 hb).1 ((hB.mem a).1 ha).2 ((hB.mem b).1 hb).2 hv) hB.srt⟩

theorem MapIs.more {P : Program} {k : TypeId} {w : World} {b n m : Nat} {f : Value → Option Value} (h : MapIs P k w b n f) (hn : n ≤ m) : MapIs P k w b m f := by
  obtain ⟨es, clock, h1, ⟨h2, h3⟩, h4⟩ := h
  exact ⟨es, clock, h1, ⟨h2, Nat.le_trans h3 hn⟩, h4⟩

theorem Ch.setBlk (w : World) (b : Nat) (o : Obj) : Ch (fun k => k = b) w (setBlock w b o) := by
  refine ⟨rfl, rfl, rfl, by unfold setBlock; simp, fun k _ hne => heap_setBlock_ne w b k o hne⟩

theorem wrong_cf : Cf 33 := cf_of Try.func33 (by kernel_rfl) (by kernel_rfl)

/-- What rising tells. -/
def RiseC (p : Option Addr) (n c : Nat) (L : List Lo) (w : World) : Prop := Calls Try.prog 35 #[.slice p n c] w fun e w' => ∃ b : Bool, e = .returned (.bool b) ∧ (b = true → risO L) ∧ Below w.heap.size w w'

set_option maxRecDepth 20000 in
set_option maxHeartbeats 8000000 in
theorem versions_any (p : Option Addr) (n c : Nat) (L : List Lo) (w : World) (hr : RdO w p n c L) (hn : n ≤ 900) (hv : ∀ i, i < n → Vf (L.getD i .z0).v) (hRi : ∀ W, Below w.heap.size w W → RiseC p n c L W) :
    Calls Try.prog 18 #[.slice p n c] w fun e w' => ∃ b : Bool, e = .returned (.bool b) ∧ (b = true → oneK L L.length ∧ toldO L ∧ risO L) ∧ Below w.heap.size w w' := by
  have hLn : L.length = n := hr.len
  have hmk := run_makeMap (P := Try.prog) 64 w
  have s1 : (w.alloc (.map #[] 0)).heap.size = w.heap.size + 1 := by simp
  have hb0 : Below w.heap.size w ((w.alloc (.map #[] 0)).alloc (.cells #[.map (some w.heap.size)] 64)) := (below_alloc _ _).trans ((below_alloc _ _).mono (by simp))
  have he0 : wmF L 0 = fun _ => none := by
    funext key
    unfold wmF
    split <;> rfl
  have hm0 : MapIs Try.prog 3 ((w.alloc (.map #[] 0)).alloc (.cells #[.map (some w.heap.size)] 64)) w.heap.size 0 (wmF L 0) := by rw [he0]; exact (MapIs.made w).kept ((below_alloc _ _).block _ (by simp))
  have hG0 : At 64 ((w.alloc (.map #[] 0)).alloc (.cells #[.map (some w.heap.size)] 64)) (w.heap.size + 1) #[.map (some w.heap.size)] := by rw [← s1]; exact At.new _ _ _
  have hs2 : ((w.alloc (.map #[] 0)).alloc (.cells #[.map (some w.heap.size)] 64)).heap.size = w.heap.size + 2 := by simp
  have hrw := hr.below hb0
  have hpl : 0 < n → ∀ a, p = some a → a.block < w.heap.size := fun h0 a ha => by
    obtain ⟨b, o, e, hc⟩ := hr.cells h0
    rw [ha] at e
    cases e
    exact World.block_lt_of_cell? _ _ (hc 0 h0).1
  have hone : oneK L 0 := fun i j hi => by omega
  clear s1
  go_enter Try.func18, Try.ntmps18
  go_wp2_with fail
  generalize ((w.alloc (.map #[] 0)).alloc (.cells #[.map (some w.heap.size)] 64)) = w2 at *
  generalize hmb : w.heap.size = mb at *
  generalize hg : mb + 1 = g at *
  clear hmk hr
  have HMB : Hid (w.heap.size = mb) := hmb
  have HG : Hid (mb + 1 = g) := hg
  have HS : Hid (w2.heap.size = mb + 2) := hs2
  clear hmb hg hs2
  go_loopw [13, 7] (fun vi v7 wr => ∃ (k : Nat), k ≤ n ∧ vi = .int .i64 k ∧ MapIs Try.prog 3 wr mb k (wmF L k) ∧ oneK L k ∧ Ch (fun j => j = mb) w2 wr) (fun vi _ _ => n - (intOf vi).toNat)
  case atStart => exact ⟨0, Nat.zero_le _, rfl, hm0, hone, Ch.refl _ _⟩
  case round =>
    clear hm0 hone
    obtain ⟨k, hk, rfl, hm, hon, hch⟩ := hrel
    have hG1 : At 64 wr g #[.map (some mb)] := (hch.block g (At.lt hG0) (by have := HG.out; omega)).trans hG0
    have hbw : Below w.heap.size w wr := by rw [HMB.out]; exact hb0.trans (hch.below (by have := HS.out; omega) fun j e => by omega)
    have hrr := hrw.ch0 hch fun h0 a ha e => by have := hpl h0 a ha; have := HMB.out; omega
    by_cases hkn : k < n
    · as_aux_lemma =>
      have hki : (k : Int) < (n : Int) := by omega
      obtain ⟨b, o, rfl, hcr⟩ := hrr.cells (by omega)
      obtain ⟨x0, x1, x2, x3, x4⟩ := hcr k hkn
      have hP := fun W => placed_any (L.getD k .z0) W
      have hkey := keyOf_int_mk (P := Try.prog) (k := 3) (q := .i64) Try.underlying3 (hv k hkn)
      have HS1 : Hid (plc (L.getD k .z0) = false → wmF L (k + 1) = wmF L k ∧ oneK L (k + 1)) := fun h => ⟨wmF_same h, oneK_same hon h⟩
      have HS2 : Hid (wmO L k (L.getD k .z0).v = none → oneK L (k + 1)) := fun h => oneK_new hon h
      have HK : Hid (plc (L.getD k .z0) = true → wmF L (k + 1) (.int .i64 (L.getD k .z0).v) = some (opV (L.getD k .z0))) := wmF_key
      have HO : Hid (∀ x : Value, x ≠ .int .i64 (L.getD k .z0).v → wmF L (k + 1) x = wmF L k x) := wmF_other
      have HL : Hid (wmF L k (.int .i64 (L.getD k .z0).v) = (wmO L k (L.getD k .z0).v).map opV) := rfl
      clear hcr hv hon
      generalize L.getD k .z0 = lo at *
      obtain ⟨ow, os, ov, ob, oe⟩ := lo
      dsimp only at x0 x1 x2 x3 x4 hP hkey HS2 HK HO HL
      have hba := below_alloc wr (.cells #[.bool ow, .string os, .int .i64 ov, .int .i64 ob, .int .i64 oe] 29)
      have hB0 := Bx.new wr ⟨ow, os, ov, ob, oe⟩ 29
      obtain ⟨y0, y1, y2, y3, y4⟩ := hB0
      have hB0 := Bx.new wr ⟨ow, os, ov, ob, oe⟩ 29
      dsimp only at y0 y1 y2 y3 y4 hB0
      have hm1 := hm.kept (w' := (wr.alloc (.cells #[.bool ow, .string os, .int .i64 ov, .int .i64 ob, .int .i64 oe] 29))) (hba.block mb hm.lt)
      have hG2 := hG1.below hba
      have hch1 := hch.trans (Ch.of_below hba _)
      generalize hz : plc ⟨ow, os, ov, ob, oe⟩ = zp at *
      clear hz hm hch
      go_wp2_with fail
      refine (hP _).mono ?_
      rintro e w8 ⟨rfl, hb8⟩
      have hm8 := hm1.kept (w' := w8) (hb8.block mb hm1.lt)
      have hG8 := hG2.below hb8
      have hB8 := hB0.below hb8
      have hch8 := hch1.trans (Ch.of_below hb8 _)
      clear hP hm1 hG2 hB0 hch1 hb8 y0 y1 y2 y3 y4 x0 x1 x2 x3 x4 hba hG1 hbw hrr
      cases zp with
      | false =>
        have hE := HS1.out rfl
        have HM : Hid (MapIs Try.prog 3 w8 mb (k + 1) (wmF L (k + 1))) := by show MapIs Try.prog 3 w8 mb (k + 1) (wmF L (k + 1)); rw [hE.1]; exact hm8.more (Nat.le_succ k)
        have HN : Hid (oneK L (k + 1)) := hE.2
        clear hE HS1 HS2 HK HO HL hm8 hkey
        go_wp2_with fail
        exact ⟨⟨k + 1, by omega, by go_num, HM.out, HN.out, hch8⟩, by simp [intOf]; omega⟩
      | true =>
        have hlk := hm8.lookOk keyedO mapO (Try.zeroValue29 _) hkey
        rw [HL.out] at hlk
        have z0 := At.cell hG8 0
        simp only [List.getElem?_toArray, List.getElem?_cons_zero] at z0
        obtain ⟨y0, y1, y2, y3, y4⟩ := hB8
        dsimp only at y0 y1 y2 y3 y4
        have hB8 : Bx w8 wr.heap.size ⟨ow, os, ov, ob, oe⟩ := ⟨y0, y1, y2, y3, y4⟩
        have hbz : Below w.heap.size w w8 := by rw [HMB.out]; exact hb0.trans (hch8.below (by have := HS.out; omega) fun j e => by omega)
        cases hx : wmO L k ov with
        | some u =>
          rw [hx] at hlk
          have hlk2 : (Instr.lookup 64 (.map (some mb)) (.int .i64 ov) true).run Try.prog w8 = .ok (.tuple #[.agg #[.bool u.w, .string u.s, .int .i64 u.v, .int .i64 u.b, .int .i64 u.e], .bool true]) w8 := hlk
          clear hlk HS1 HS2 HK HO HL hm8 hkey hx
          go_wp2_with fail
          go_ret
          exact ⟨false, rfl, (fun h => by cases h), hbz.trans ((below_alloc w8 (.cells #[.bool u.w, .string u.s, .int .i64 u.v, .int .i64 u.b, .int .i64 u.e] 29)).mono hbz.size)⟩
        | none =>
          rw [hx] at hlk
          have hlk2 : (Instr.lookup 64 (.map (some mb)) (.int .i64 ov) true).run Try.prog w8 = .ok (.tuple #[.agg #[.bool false, .string ⟨#[]⟩, .int .i64 0, .int .i64 0, .int .i64 0], .bool false]) w8 := hlk
          have hbc := below_alloc w8 (.cells #[.bool false, .string ⟨#[]⟩, .int .i64 0, .int .i64 0, .int .i64 0] 29)
          have hmc := hm8.kept (w' := w8.alloc (.cells #[.bool false, .string ⟨#[]⟩, .int .i64 0, .int .i64 0, .int .i64 0] 29)) (hbc.block mb hm8.lt)
          obtain ⟨ob', hput, hnew⟩ := hmc.put keyedO mapO hkey (opV ⟨ow, os, ov, ob, oe⟩)
          have hput2 : (Instr.mapUpdate 64 (.map (some mb)) (.int .i64 ov) (.agg #[.bool ow, .string os, .int .i64 ov, .int .i64 ob, .int .i64 oe])).run Try.prog (w8.alloc (.cells #[.bool false, .string ⟨#[]⟩, .int .i64 0, .int .i64 0, .int .i64 0] 29)) = .ok () (setBlock (w8.alloc (.cells #[.bool false, .string ⟨#[]⟩, .int .i64 0, .int .i64 0, .int .i64 0] 29)) mb ob') := hput
          have HM : Hid (MapIs Try.prog 3 (setBlock (w8.alloc (.cells #[.bool false, .string ⟨#[]⟩, .int .i64 0, .int .i64 0, .int .i64 0] 29)) mb ob') mb (k + 1) (wmF L (k + 1))) := hnew _ _ (heap_setBlock _ _ _ hmc.lt) (HK.out rfl) HO.out
          have HN : Hid (oneK L (k + 1)) := HS2.out hx
          have HC : Hid (Ch (fun j => j = mb) w2 (setBlock (w8.alloc (.cells #[.bool false, .string ⟨#[]⟩, .int .i64 0, .int .i64 0, .int .i64 0] 29)) mb ob')) := (hch8.trans (Ch.of_below hbc _)).trans (Ch.setBlk _ _ _)
          have zz0 := At.cell (hG8.below hbc) 0
          simp only [List.getElem?_toArray, List.getElem?_cons_zero] at zz0
          obtain ⟨q0, q1, q2, q3, q4⟩ := hB8.below hbc
          dsimp only at q0 q1 q2 q3 q4
          clear hlk HS1 HS2 HK HO HL hm8 hkey hx hput hnew hmc hch8 hbc
          go_wp2_with fail
          exact ⟨⟨k + 1, by omega, by go_num, HM.out, HN.out, HC.out⟩, by simp [intOf]; omega⟩
    · as_aux_lemma =>
      have hki : ¬ (k : Int) < (n : Int) := by omega
      obtain rfl : k = n := by omega
      have hba := below_alloc wr (.cells #[.func (.func 32) #[] #[.pointer (some ⟨g, 0, none⟩)]] 45)
      have hF := At.new 45 wr #[.func (.func 32) #[] #[.pointer (some ⟨g, 0, none⟩)]]
      have hcon := containsL_any 33 wrong_cf #[.pointer (some ⟨wr.heap.size, 0, none⟩)] (fun o => wrongB (wmO L k o.v) o) p k c L (wr.alloc (.cells #[.func (.func 32) #[] #[.pointer (some ⟨g, 0, none⟩)]] 45)) (hrr.below hba) (by omega) fun j hj W hW => by
        have hbj := hba.trans (hW.mono hba.size)
        have h1 := At.cell (hG1.below hbj) 0
        have h2 := At.cell (hF.below hW) 0
        have h3 := wrong_any (g := g) (g8 := wr.heap.size) (mb := mb) (cnt := k) (f := wmF L k) (w := W) h1 h2 (hm.kept (hbj.block mb hm.lt)) (L.getD j .z0) (hv j (by omega)) (wmO L k (L.getD j .z0).v) rfl
        simpa using h3
      have HT : Hid (L.any (fun o => wrongB (wmO L k o.v) o) = false → toldO L) := fun h => told_of (by rw [hLn]; exact h)
      have HO : Hid (oneK L L.length) := by show oneK L L.length; rw [hLn]; exact hon
      have hbx := hbw.trans (hba.mono hbw.size)
      clear hm hon hch hG1 hF hba hrr hv hG0 hrw hb0
      generalize L.any (fun o => wrongB (wmO L k o.v) o) = b1 at *
      have hst : ∀ (W : World) (a : Addr), (store a (.func (.func 32) #[] #[.pointer (some ⟨g, 0, none⟩)])).run Try.prog W = stored Try.prog W a (.func (.func 32) #[] #[.pointer (some ⟨g, 0, none⟩)]) .plain := fun W a => run_store Try.prog W a _ _ rfl
      go_wp2_with fail
      refine hcon.mono ?_
      rintro e w9 ⟨rfl, hb9⟩
      have hby := hbx.trans (hb9.mono hbx.size)
      clear hcon hb9 hbx
      cases b1 with
      | true =>
        clear HT HO
        go_wp2_with fail
        go_ret
        exact ⟨false, rfl, (fun h => by cases h), hby⟩
      | false =>
        have hR2 : RiseC p k c L w9 := hRi w9 (by rw [← HMB.out]; exact hby)
        unfold RiseC at hR2
        clear hRi
        go_wp2_with fail
        refine hR2.mono ?_
        rintro e w10 ⟨b2, rfl, hris, hb10⟩
        clear hR2
        have HR : Hid (b2 = true → risO L) := hris
        clear hris
        go_wp2_with fail
        go_ret
        exact ⟨b2, rfl, (fun h => ⟨HO.out, (by first | exact HT.out rfl | exact HT.out trivial), HR.out h⟩), hby.trans (hb10.mono hby.size)⟩

end Go.Proofs.Ytmfmjoibofadlaa.M
