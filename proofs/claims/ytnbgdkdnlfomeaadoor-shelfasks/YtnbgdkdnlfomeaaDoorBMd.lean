/-
  Own text: a shelf behind calls.
-/
import Derived.Test.YtnbgdkdnlfomeaaDoorBShl
namespace Go.Proofs.YtnbgdkdnlfomeaaDoor.M
open Go.ChangeShapes Go.WideShapes Go.ChangeAt Go.RowKit Go.ChangeMaps Go.MapKept Go.Maps Go.Shelf Go.Proofs
set_option linter.unusedSimpArgs false

/-- A call that can be handed in. -/
def okD (d : Dv) : Prop := d.k < 18446744073709551616 ∧ d.s.size ≤ 9223372036854775807 ∧ d.x.k < 18446744073709551616 ∧ d.x.s.size ≤ 9223372036854775807

/-- A shelf behind calls. -/
def Sh.runs (s : Sh) (l : List Dv) : Sh := l.foldl (fun s d => (s.doR d).2.2) s

/-- A shelf of which all is new stays so behind a call. -/
theorem CZ.step {w : World} {g b : Nat} {p : Option Addr} {n c : Nat} {s : Sh} {V W : World} (h : CZ w g b p n c s V) {s' : Sh} {b' : Nat} {p' : Option Addr} {n' c' : Nat} (hg : GS V g b' p c p' n' c' s' W) (hb : b' = b ∨ V.heap.size ≤ b') : CZ w g b' p' n' c' s' W := by
  have h1 := h.ng
  have h2 := h.nb
  have hsz := h.bl.out.size
  refine ⟨h.bl.out.trans (hg.ch.below hsz fun k hk => ?_), hg.sh, h.ng, ?_, fun k hk => ?_⟩
  · rcases hk with rfl | hk
    · exact h1
    · exact h.nm k hk
  · rcases hb with rfl | hb
    · exact h2
    · omega
  · rcases hg.new k hk with hk | hk
    · exact h.nm k hk
    · omega

theorem CZ.later {w : World} {g b : Nat} {p : Option Addr} {n c : Nat} {s : Sh} {V W : World} (h : CZ w g b p n c s V) (hb : Below V.heap.size V W) : CZ w g b p n c s W := CZ.stays _ _ _ _ _ _ _ _ _ h hb

theorem CZ.lower {w w0 : World} {g b : Nat} {p : Option Addr} {n c : Nat} {s : Sh} {V : World} (h : CZ w g b p n c s V) (hb : Below w0.heap.size w0 w) : CZ w0 g b p n c s V :=
  ⟨hb.trans (h.bl.out.mono hb.size), h.sh, Nat.le_trans hb.size h.ng, Nat.le_trans hb.size h.nb, fun k hk => Nat.le_trans hb.size (h.nm k hk)⟩

theorem oneDo {x : Dv} : (#[.int .i64 x.op, .int .i64 x.ep, .int .i64 x.i, .bool x.nr, .int .u8 (bt x.k 0), .int .u8 (bt x.k 1), .int .u8 (bt x.k 2), .int .u8 (bt x.k 3), .int .u8 (bt x.k 4), .int .u8 (bt x.k 5), .int .u8 (bt x.k 6), .int .u8 (bt x.k 7), .string x.s, .int .i64 x.c, .int .i64 x.q, .int .i64 x.x.ix, .int .i64 x.x.ep, .int .u8 (bt x.x.k 0), .int .u8 (bt x.x.k 1), .int .u8 (bt x.x.k 2), .int .u8 (bt x.x.k 3), .int .u8 (bt x.x.k 4), .int .u8 (bt x.x.k 5), .int .u8 (bt x.x.k 6), .int .u8 (bt x.x.k 7), .int .i64 x.x.v, .string x.x.s, .int .i64 x.x.c, .int .i64 x.x.q] : Array Value).all (·.oneCell') = true := by simp [Value.oneCell']

/-- A shelf in block g of which all is new. -/
def Mk (w : World) (g : Nat) (s : Sh) (W : World) : Prop := ∃ b q m d, CZ w g b q m d s W

theorem Mk.out {w : World} {g : Nat} {s : Sh} {W : World} (h : Mk w g s W) : ∃ b q m d, CZ w g b q m d s W := h

set_option maxRecDepth 20000 in
set_option maxHeartbeats 2000000 in
theorem made_any
    (ix ep : Int) (cp : Option Addr) (cn cc : Nat) (dp : Option Addr) (dn dc : Nat) (C : List Ce) (D : List Dn) (w : World) (hC : RdG celS w cp cn cc C) (hD : RdG donS w dp dn dc D) (hn : dn ≤ 1099511627776)
    (hck : ∀ c ∈ C, c.k < 18446744073709551616 ∧ c.s.size ≤ 9223372036854775807) (hTa : Tabs w) (hcn : cn ≤ 1099511627776) (hok : chkE ix ep C D = 0)
    (p : Option Addr) (n c : Nat) (ds : List Dv) (hr : RdG dooS w p n c ds) (hds : ∀ d ∈ ds, okD d) (hnn : n ≤ 9223372036854775807) :
    Calls Tryd.prog 13 #[.agg #[.int .i64 ix, .int .i64 ep, .slice cp cn cc, .slice dp dn dc], .slice p n c] w fun e w' => ∃ g, e = .returned (.pointer (some ⟨g, 0, none⟩)) ∧ Mk w g ((frS ix ep C D).runs ds) w' := by
  have HB := below_alloc' w (.cells #[.int .i64 ix, .int .i64 ep, .slice cp cn cc, .slice dp dn dc] 25)
  have hTb := At.new 25 w #[.int .i64 ix, .int .i64 ep, .slice cp cn cc, .slice dp dn dc]
  have hF := from_ok ix ep cp cn cc dp dn dc C D (w.alloc (.cells #[.int .i64 ix, .int .i64 ep, .slice cp cn cc, .slice dp dn dc] 25)) (hC.below HB) (hD.below HB) hn hck (hTa.up HB) hcn hok
  have hM : Hid ((frS ix ep C D).runs ds = (frS ix ep C D).runs (ds.drop 0)) := rfl
  generalize frS ix ep C D = s0 at *
  generalize hW : (w.alloc (.cells #[.int .i64 ix, .int .i64 ep, .slice cp cn cc, .slice dp dn dc] 25)) = W0 at *
  have HBH : Hid (Below w.heap.size w W0) := HB
  clear hC hD hck hok HB
  go_enter Tryd.func13, Tryd.ntmps13
  go_wp2_with (refine wpList_load_row rfl 25 _ rfl w.heap.size rfl _ _ _ _ hTb Tryd.underlying25 rfl infoTb ?_)
  refine hF.mono ?_
  rintro e w1 ⟨g, b, rfl, hZ⟩
  replace hZ := hZ.lower HBH.out
  clear hF hTb hW HBH
  go_wp2_with fail
  have hl := hr.len
  go_loopw [16] (fun i wr => ∃ (k : Nat) (b : Nat) (q : Option Addr) (m d : Nat) (s : Sh), k ≤ n ∧ i = .int .i64 k ∧ CZ w g b q m d s wr ∧ Hid (s0.runs ds = s.runs (ds.drop k))) (fun i _ => n - (intOf i).toNat)
  case atStart => exact ⟨0, b, none, 0, 0, s0, Nat.zero_le _, rfl, hZ, hM⟩
  case round =>
    clear hZ hM
    obtain ⟨k, b, q, m, d, s, hk, rfl, hZ, HM⟩ := hrel
    by_cases hkn : k < n
    · as_aux_lemma =>
      have hki : (k : Int) < (n : Int) := by omega
      obtain ⟨bb, o, rfl, _⟩ := hr.at (by omega)
      have hkl : k < ds.length := by omega
      have hrk := hr.rangeB hZ.bl.out hkn
      have hdk := hds (ds.getD k dooS.z) (by rw [List.getD_eq_getElem?_getD, List.getElem?_eq_getElem hkl]; exact List.getElem_mem hkl)
      have HM2 : Hid (s0.runs ds = ((s.doR (ds.getD k dooS.z)).2.2).runs (ds.drop (k + 1))) := by
        unfold Hid
        rw [HM.out, List.drop_eq_getElem_cons hkl, List.getD_eq_getElem?_getD, List.getElem?_eq_getElem hkl]
        rfl
      clear HM hkl
      generalize ds.getD k dooS.z = x at *
      have hrk2 : wr.rangeAt bb (o + k * 29) [.int .i64 x.op, .int .i64 x.ep, .int .i64 x.i, .bool x.nr, .int .u8 (bt x.k 0), .int .u8 (bt x.k 1), .int .u8 (bt x.k 2), .int .u8 (bt x.k 3), .int .u8 (bt x.k 4), .int .u8 (bt x.k 5), .int .u8 (bt x.k 6), .int .u8 (bt x.k 7), .string x.s, .int .i64 x.c, .int .i64 x.q, .int .i64 x.x.ix, .int .i64 x.x.ep, .int .u8 (bt x.x.k 0), .int .u8 (bt x.x.k 1), .int .u8 (bt x.x.k 2), .int .u8 (bt x.x.k 3), .int .u8 (bt x.x.k 4), .int .u8 (bt x.x.k 5), .int .u8 (bt x.x.k 6), .int .u8 (bt x.x.k 7), .int .i64 x.x.v, .string x.x.s, .int .i64 x.x.c, .int .i64 x.x.q] := hrk
      have hX0 := At.new 73 wr #[.int .i64 0, .int .i64 0, .int .i64 0, .bool false, .int .u8 0, .int .u8 0, .int .u8 0, .int .u8 0, .int .u8 0, .int .u8 0, .int .u8 0, .int .u8 0, .string ⟨#[]⟩, .int .i64 0, .int .i64 0, .int .i64 0, .int .i64 0, .int .u8 0, .int .u8 0, .int .u8 0, .int .u8 0, .int .u8 0, .int .u8 0, .int .u8 0, .int .u8 0, .int .i64 0, .string ⟨#[]⟩, .int .i64 0, .int .i64 0]
      have hX := hX0.row #[.int .i64 x.op, .int .i64 x.ep, .int .i64 x.i, .bool x.nr, .int .u8 (bt x.k 0), .int .u8 (bt x.k 1), .int .u8 (bt x.k 2), .int .u8 (bt x.k 3), .int .u8 (bt x.k 4), .int .u8 (bt x.k 5), .int .u8 (bt x.k 6), .int .u8 (bt x.k 7), .string x.s, .int .i64 x.c, .int .i64 x.q, .int .i64 x.x.ix, .int .i64 x.x.ep, .int .u8 (bt x.x.k 0), .int .u8 (bt x.x.k 1), .int .u8 (bt x.x.k 2), .int .u8 (bt x.x.k 3), .int .u8 (bt x.x.k 4), .int .u8 (bt x.x.k 5), .int .u8 (bt x.x.k 6), .int .u8 (bt x.x.k 7), .int .i64 x.x.v, .string x.x.s, .int .i64 x.x.c, .int .i64 x.x.q]
      have hba : Below wr.heap.size wr ((wr.alloc (.cells #[.int .i64 0, .int .i64 0, .int .i64 0, .bool false, .int .u8 0, .int .u8 0, .int .u8 0, .int .u8 0, .int .u8 0, .int .u8 0, .int .u8 0, .int .u8 0, .string ⟨#[]⟩, .int .i64 0, .int .i64 0, .int .i64 0, .int .i64 0, .int .u8 0, .int .u8 0, .int .u8 0, .int .u8 0, .int .u8 0, .int .u8 0, .int .u8 0, .int .u8 0, .int .i64 0, .string ⟨#[]⟩, .int .i64 0, .int .i64 0] 73)).setRow wr.heap.size #[.int .i64 x.op, .int .i64 x.ep, .int .i64 x.i, .bool x.nr, .int .u8 (bt x.k 0), .int .u8 (bt x.k 1), .int .u8 (bt x.k 2), .int .u8 (bt x.k 3), .int .u8 (bt x.k 4), .int .u8 (bt x.k 5), .int .u8 (bt x.k 6), .int .u8 (bt x.k 7), .string x.s, .int .i64 x.c, .int .i64 x.q, .int .i64 x.x.ix, .int .i64 x.x.ep, .int .u8 (bt x.x.k 0), .int .u8 (bt x.x.k 1), .int .u8 (bt x.x.k 2), .int .u8 (bt x.x.k 3), .int .u8 (bt x.x.k 4), .int .u8 (bt x.x.k 5), .int .u8 (bt x.x.k 6), .int .u8 (bt x.x.k 7), .int .i64 x.x.v, .string x.x.s, .int .i64 x.x.c, .int .i64 x.x.q]) := (below_alloc' wr (.cells #[.int .i64 0, .int .i64 0, .int .i64 0, .bool false, .int .u8 0, .int .u8 0, .int .u8 0, .int .u8 0, .int .u8 0, .int .u8 0, .int .u8 0, .int .u8 0, .string ⟨#[]⟩, .int .i64 0, .int .i64 0, .int .i64 0, .int .i64 0, .int .u8 0, .int .u8 0, .int .u8 0, .int .u8 0, .int .u8 0, .int .u8 0, .int .u8 0, .int .u8 0, .int .i64 0, .string ⟨#[]⟩, .int .i64 0, .int .i64 0] 73)).trans (below_setRow _ _ _ (Nat.le_refl _))
      have hZ1 := hZ.later hba
      have hDo := does_any hZ1.sh x hdk.1 hdk.2.1 hdk.2.2.1 hdk.2.2.2 (hTa.up hZ1.bl.out)
      clear hrk hdk hZ hba
      go_wp2_with (first | refine wpList_load_mid rfl 73 _ rfl bb (o + k * 29) rfl _ _ hrk2 Tryd.underlying73 rfl infoDo ?_ | refine wpList_store_row rfl 73 _ _ rfl wr.heap.size #[.int .i64 x.op, .int .i64 x.ep, .int .i64 x.i, .bool x.nr, .int .u8 (bt x.k 0), .int .u8 (bt x.k 1), .int .u8 (bt x.k 2), .int .u8 (bt x.k 3), .int .u8 (bt x.k 4), .int .u8 (bt x.k 5), .int .u8 (bt x.k 6), .int .u8 (bt x.k 7), .string x.s, .int .i64 x.c, .int .i64 x.q, .int .i64 x.x.ix, .int .i64 x.x.ep, .int .u8 (bt x.x.k 0), .int .u8 (bt x.x.k 1), .int .u8 (bt x.x.k 2), .int .u8 (bt x.x.k 3), .int .u8 (bt x.x.k 4), .int .u8 (bt x.x.k 5), .int .u8 (bt x.x.k 6), .int .u8 (bt x.x.k 7), .int .i64 x.x.v, .string x.x.s, .int .i64 x.x.c, .int .i64 x.x.q] rfl rfl _ _ hX0 infoDo rfl oneDo ?_ | refine wpList_load_row rfl 73 _ rfl wr.heap.size rfl _ _ _ _ hX Tryd.underlying73 rfl infoDo ?_)
      refine hDo.mono ?_
      rintro e w3 ⟨rfl, b', p', n', c', hG, hbb⟩
      have hZ3 := hZ1.step hG hbb
      clear hDo hX hX0 hZ1 hG hbb hrk2
      go_wp2_with fail
      exact ⟨⟨k + 1, b', p', n', c', _, by omega, by go_num, hZ3, HM2⟩, by simp [intOf]; omega⟩
    · have hki : ¬ (k : Int) < (n : Int) := by omega
      have HE : Hid (s0.runs ds = s) := by
        unfold Hid
        rw [HM.out, List.drop_of_length_le (by omega)]
        rfl
      clear HM hr
      go_wp2_with fail
      go_ret
      rw [HE.out]
      exact ⟨g, rfl, b, q, m, d, hZ⟩

end Go.Proofs.YtnbgdkdnlfomeaaDoor.M
