/-
  Own text: the key of a text; a new shelf; what is committed; whether cells are the same.
-/
import Derived.Test.YtnbgdkdnlfomeaaDoorBNew
import Derived.Test.YtnbgdkdnlfomeaaDoorBNo
namespace Go.Proofs.YtnbgdkdnlfomeaaDoor.M
open Go.ChangeShapes Go.WideShapes Go.ChangeAt Go.RowKit Go.ChangeMaps Go.MapKept Go.Maps Go.Shelf Go.Proofs
set_option linter.unusedSimpArgs false

set_option maxRecDepth 20000 in
set_option maxHeartbeats 1000000 in
theorem keyx_any (s : ByteArray) (w : World) (hs : s.size ≤ 9223372036854775807) (hT : Tabs w) (hx : isTx s 8 = true) (hn : Lib.indexByte s.data.toList 0 < 0) : Calls Tryd.prog 66 #[.string s] w fun e w' => e = .returned (.tuple #[.agg (nums .u8 (padS s)), .int .i64 0]) ∧ Below w.heap.size w w' := by
  have hZ0 : ArrI 28 .u8 ((w.alloc (.cells (nums .u8 (List.replicate 8 0)) 28)).alloc (.cells (nums .u8 (List.replicate 8 0)) 28)) w.heap.size (List.replicate 8 0) := (two_new8 w 28).1
  have hK0 : ArrI 28 .u8 ((w.alloc (.cells (nums .u8 (List.replicate 8 0)) 28)).alloc (.cells (nums .u8 (List.replicate 8 0)) 28)) (w.heap.size + 1) (List.replicate 8 0) := (two_new8 w 28).2.1
  have hb0 := (two_new8 w 28).2.2
  have hT0 := hT.up hb0
  rw [zero8] at hZ0 hK0 hb0 hT0
  have hi0 := info_nums .u8 (List.replicate 8 0) infoKy (by simp)
  rw [zero8] at hi0
  have hs8 : s.size ≤ 8 := by unfold isTx at hx; simp at hx; exact hx.2.1
  have hC := fun W (h : Tabs W) => isText_any s 8 W hs (by decide) h
  have hI := fun W => ixByte_any s W
  rw [hx] at hC
  have hnn : ¬ (0 : Int) ≤ Lib.indexByte s.data.toList 0 := by omega
  generalize Lib.indexByte s.data.toList 0 = ix at hI hn hnn
  have hcp := fun (W : World) (h : ArrI 28 .u8 W (w.heap.size + 1) (List.replicate 8 0)) => copy_pad s hs8 W _ h
  have hpl := padS_len s hs8
  generalize padS s = pl at *
  have hip := info_nums .u8 pl infoKy hpl
  have hszp : (nums .u8 (List.replicate 8 0)).size = (nums .u8 pl).size := by rw [nums_size, nums_size, hpl]; rfl
  clear hx hn hs8
  go_enter Tryd.func66, Tryd.ntmps66
  go_wp2_with fail
  refine (hC _ hT0).mono ?_
  rintro e w1 ⟨rfl, hb1⟩
  have hZ1 := hZ0.below hb1
  have hK1 := hK0.below hb1
  have hbb := hb0.trans (hb1.mono hb0.size)
  clear hC hZ0 hK0 hT0 hb0 hb1
  go_wp2_with fail
  refine (hI _).mono ?_
  rintro e w2 ⟨rfl, rfl⟩
  clear hI
  have hK2 := hK1.setRow pl
  have hZ2 := hZ1.rowOther (w.heap.size + 1) (nums .u8 pl) (by omega)
  have hb2 := hbb.trans (below_setRow w2 (w.heap.size + 1) (nums .u8 pl) (show w.heap.size ≤ w.heap.size + 1 by omega))
  have hZ3 := ArrI.setRow (xs := List.replicate 8 0) hZ2 pl
  have hb3 := hb2.trans (below_setRow _ w.heap.size (nums .u8 pl) (Nat.le_refl _))
  have hcp2 := hcp _ hK1
  clear hcp hZ1 hK1 hbb hb2
  go_wp2_with (first
    | refine wpList_copy_run _ rfl (.tmp 14) (.tmp 15) 109 9 rfl _ _ rfl rfl (hcp2 _ _ _) ?_
    | refine wpList_load_row rfl 28 _ rfl (w.heap.size + 1) rfl _ _ _ _ hK2 Tryd.underlying28 rfl hip ?_
    | refine wpList_store_row rfl 28 _ _ rfl w.heap.size (nums .u8 pl) rfl rfl _ _ hZ2 hip hszp (nums_one _ _) ?_)
  exact bodyPost_ret (results_row_tmp rfl _ _ w.heap.size _ _ _ rfl hZ3 Tryd.underlying28 rfl hip) rfl ⟨rfl, hb3⟩

set_option maxRecDepth 20000 in
set_option maxHeartbeats 1000000 in
theorem key9_any (s : ByteArray) (w : World) (hs : s.size ≤ 9223372036854775807) (hT : Tabs w) (hx : isTx s 8 = true) (hn : Lib.indexByte s.data.toList 0 < 0) : Calls Tryd.prog 45 #[.string s] w fun e w' => e = .returned (.agg (nums .u8 (padS s))) ∧ Below w.heap.size w w' := by
  have hs8 : s.size ≤ 8 := by unfold isTx at hx; simp at hx; exact hx.2.1
  have hb0 := below_alloc' w (.cells #[.int .u8 0, .int .u8 0, .int .u8 0, .int .u8 0, .int .u8 0, .int .u8 0, .int .u8 0, .int .u8 0] 28)
  have hA0 : ArrI 28 .u8 (w.alloc (.cells #[.int .u8 0, .int .u8 0, .int .u8 0, .int .u8 0, .int .u8 0, .int .u8 0, .int .u8 0, .int .u8 0] 28)) w.heap.size (List.replicate 8 0) := ArrI.new 28 .u8 w (List.replicate 8 0)
  have hT0 := hT.up hb0
  have hK := keyx_any s _ hs hT0 hx hn
  have hpl := padS_len s hs8
  have hip := info_nums .u8 (padS s) infoKy hpl
  have hszp : (nums .u8 (List.replicate 8 0)).size = (nums .u8 (padS s)).size := by rw [nums_size, nums_size, hpl]; rfl
  generalize padS s = pl at *
  clear hT hT0 hx hn hs8
  go_enter Tryd.func45, Tryd.ntmps45
  go_wp2_with fail
  generalize (w.alloc (.cells #[.int .u8 0, .int .u8 0, .int .u8 0, .int .u8 0, .int .u8 0, .int .u8 0, .int .u8 0, .int .u8 0] 28)) = V0 at *
  refine hK.mono ?_
  rintro e w1 ⟨rfl, hb1⟩
  have hbb1 := hb0.trans (hb1.mono hb0.size)
  have hA1 := hA0.below hb1
  have hb2 := below_alloc' w1 (.cells #[.int .u8 0, .int .u8 0, .int .u8 0, .int .u8 0, .int .u8 0, .int .u8 0, .int .u8 0, .int .u8 0] 28)
  have hB2 : ArrI 28 .u8 (w1.alloc (.cells #[.int .u8 0, .int .u8 0, .int .u8 0, .int .u8 0, .int .u8 0, .int .u8 0, .int .u8 0, .int .u8 0] 28)) w1.heap.size (List.replicate 8 0) := ArrI.new 28 .u8 w1 (List.replicate 8 0)
  have hA2 := hA1.below hb2
  have hbb2 := hbb1.trans (hb2.mono hbb1.size)
  have hlt := hA1.lt
  have hne : w.heap.size ≠ w1.heap.size := by omega
  have hB3 := ArrI.setRow (xs := List.replicate 8 0) hB2 pl
  have hA3 := hA2.rowOther w1.heap.size (nums .u8 pl) hne
  have hbb3 := hbb2.trans (below_setRow (B := w.heap.size) (w1.alloc (.cells #[.int .u8 0, .int .u8 0, .int .u8 0, .int .u8 0, .int .u8 0, .int .u8 0, .int .u8 0, .int .u8 0] 28)) w1.heap.size (nums .u8 pl) hbb1.size)
  have hA4 := ArrI.setRow (xs := List.replicate 8 0) hA3 pl
  have hbb4 := hbb3.trans (below_setRow (B := w.heap.size) ((w1.alloc (.cells #[.int .u8 0, .int .u8 0, .int .u8 0, .int .u8 0, .int .u8 0, .int .u8 0, .int .u8 0, .int .u8 0] 28)).setRow w1.heap.size (nums .u8 pl)) w.heap.size (nums .u8 pl) (Nat.le_refl _))
  clear hK hb0 hb1 hbb1 hbb2 hbb3 hA0 hA1 hA2 hb2
  go_wp2_with (first
    | refine wpList_load_row rfl 28 _ rfl w1.heap.size rfl _ _ _ _ hB3 Tryd.underlying28 rfl hip ?_
    | refine wpList_store_row rfl 28 _ _ rfl w1.heap.size (nums .u8 pl) rfl rfl _ _ hB2 hip hszp (nums_one _ _) ?_
    | refine wpList_store_row rfl 28 _ _ rfl w.heap.size (nums .u8 pl) rfl rfl _ _ hA3 hip hszp (nums_one _ _) ?_)
  exact bodyPost_ret (results_cell_row rfl _ _ w.heap.size _ _ _ _ rfl hA4 Tryd.underlying28 rfl hip) rfl ⟨rfl, hbb4⟩

/-- A new shelf. -/
def Sh.z0 : Sh := ⟨⟨0, 0, [], fun _ => .z0⟩, [], 0⟩

theorem Sh.z0_inv : Sh.z0.inv := ⟨by decide, by decide, by decide, by decide, by decide, (fun i h => by cases h), (fun x h => by cases h), (fun c h => by cases h), (fun x h => by cases h)⟩

set_option maxRecDepth 20000 in
set_option maxHeartbeats 1000000 in
theorem new_any (w : World) : Calls Tryd.prog 44 #[] w fun e w' => ∃ g b, e = .returned (.pointer (some ⟨g, 0, none⟩)) ∧ ShB w' g b none 0 0 .z0 ∧ w.heap.size ≤ g ∧ Below w.heap.size w w' := by
  have hS := sumsOf_any 0 0 none 0 0 [] none 0 0 [] w (RdG.nilR _ _ _ fun _ => rfl) (RdG.nilR _ _ _ fun _ => rfl) (fun _ h => by cases h) (fun _ h => by cases h) (by decide) (by decide)
  go_enter Tryd.func44, Tryd.ntmps44
  go_wp2_with fail
  refine hS.mono ?_
  rintro e w1 ⟨b, rfl, hm, hb, hb1⟩
  clear hS
  go_wp2_with fail
  go_ret
  refine ⟨w1.heap.size, b, rfl, ⟨?_, hm.below (below_alloc' _ _), OwG.none _ _ _ _, Sh.z0_inv, fun h => absurd h.1 (Nat.lt_irrefl _)⟩, hb1.size, hb1.trans ((below_alloc' _ _).mono hb1.size)⟩
  exact At.new _ _ _

/-- The shelf behind Settle. -/
def Sh.setS (s : Sh) (i : Int) : Sh := if s.openS i = 0 then ⟨s.low, s.tail, i⟩ else s

theorem Sh.inv.set {s : Sh} (h : s.inv) {i : Int} (hi : s.openS i = 0) : (⟨s.low, s.tail, i⟩ : Sh).inv := by
  unfold Sh.openS at hi
  have hl : s.last = s.low.ix + (s.tail.length : Nat) := rfl
  have hlo := h.lo
  split at hi
  · cases hi
  · split at hi
    · cases hi
    · exact ⟨h.ix0, h.ix1, by show s.low.ix ≤ i; omega, by show i ≤ s.low.ix + (s.tail.length : Nat); omega, h.few, h.ixs, h.ok, h.vlo, h.vti⟩

set_option maxRecDepth 20000 in
set_option maxHeartbeats 1000000 in
theorem settle_any {w : World} {g b : Nat} {p : Option Addr} {n c : Nat} {s : Sh} (h : ShB w g b p n c s) (i : Int) :
    Calls Tryd.prog 46 #[.pointer (some ⟨g, 0, none⟩), .int .i64 i] w fun e w' => e = .returned (.int .i64 (s.openS i)) ∧ GS w g b p c p n c (s.setS i) w' := by
  have hO := open_any h i
  generalize hss : s.setS i = s'
  have HS : Hid (s' = if s.openS i = 0 then ⟨s.low, s.tail, i⟩ else s) := hss.symm
  have HI : Hid (s.openS i = 0 → (⟨s.low, s.tail, i⟩ : Sh).inv) := fun e => h.inv.set e
  clear hss
  generalize s.openS i = r at *
  go_enter Tryd.func46, Tryd.ntmps46
  go_wp2_with fail
  refine hO.mono ?_
  rintro e w1 ⟨rfl, hb1⟩
  clear hO
  have hSh := h.below hb1
  by_cases c1 : r = 0
  · subst c1
    have HN : Hid (s' = ⟨s.low, s.tail, i⟩) := by unfold Hid; rw [HS.out, if_pos rfl]
    have hinv := HI.out rfl
    have c16 := hSh.cells.2.2
    have f16 := At.free hSh.blk 16
    have hcs : Ch (fun k => k = g) w1 (w1.setCell ⟨g, 16, none⟩ (.int .i64 i)) := Ch.setCell w1 ⟨g, 16, none⟩ _
    have hfin : GS w g b p c p n c ⟨s.low, s.tail, i⟩ (w1.setCell ⟨g, 16, none⟩ (.int .i64 i)) :=
      ⟨⟨(At.setC hSh.blk 16 _ :), hSh.mp.kept (heap_setC _ _ _ _ _ hSh.bne.1), hSh.tl.ch hcs (fun k hk e => hSh.gt (e ▸ hk)), hinv, hSh.gt⟩, (Ch.of_below hb1 _).trans (hcs.mono fun k _ e => Or.inl e), fun k hk => Or.inl hk⟩
    clear HS HI h
    go_wp2_with fail
    go_ret
    rw [HN.out]
    exact ⟨rfl, hfin⟩
  · have HN : Hid (s' = s) := by unfold Hid; rw [HS.out, if_neg c1]
    clear HS HI
    go_wp2_with fail
    go_ret
    rw [HN.out]
    exact ⟨rfl, hSh, Ch.of_below hb1 _, fun k hk => Or.inl hk⟩

end Go.Proofs.YtnbgdkdnlfomeaaDoor.M
