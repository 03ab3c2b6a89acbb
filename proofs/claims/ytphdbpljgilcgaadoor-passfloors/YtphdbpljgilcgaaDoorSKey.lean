/-
  Own text: whether a number is a key: contracts of strings.IndexByte at 0, of the shelf's isText and Key, of isKey; a short text as a key.
-/
import Derived.Test.YtphdbpljgilcgaaDoorSEq
import Derived.Test.YtphdbpljgilcgaaDoorSIns2
import Derived.Test.YtphdbpljgilcgaaDoorHTrim
import Derived.Lib.Bytealg
import Derived.Lib.LazyBuf
import Derived.Lib.BufferWrite
import Derived.Laws.Externs
import Derived.Lib.QuietBelow
namespace Go.Proofs.YtphdbpljgilcgaaDoor.M
open Go.ChangeShapes Go.WideShapes Go.ChangeAt Go.RowKit Go.Proofs
set_option linter.unusedSimpArgs false

set_option maxRecDepth 20000 in
theorem slite_any (s : ByteArray) (w : World) : Calls Tryd.prog 48 #[.string s, .int .u8 0] w fun e w' => e = .returned (.int .i64 (Lib.indexByte s.data.toList 0)) ∧ w' = w := by
  have hX : (callFunc 57 #[.string s, .int .u8 0]).run Tryd.prog w = .ok (.value (.int .i64 (Lib.indexByte s.data.toList 0))) w := by
    rw [run_callFunc_extern Tryd.func57 (by kernel_rfl) (by kernel_rfl) (by kernel_rfl) (e := Extern.BytealgIndexByte.indexByte) (by kernel_rfl), Lib.run_indexByteString]
    rfl
  generalize Lib.indexByte s.data.toList 0 = z at hX ⊢
  go_enter Tryd.func48, Tryd.ntmps48
  go_wp2_with (simp only [hX])
  go_ret
  exact ⟨rfl, rfl⟩

set_option maxRecDepth 20000 in
theorem ixByte_any (s : ByteArray) (w : World) : Calls Tryd.prog 36 #[.string s, .int .u8 0] w fun e w' => e = .returned (.int .i64 (Lib.indexByte s.data.toList 0)) ∧ w' = w := by
  have hC := slite_any s w
  generalize Lib.indexByte s.data.toList 0 = z at hC ⊢
  go_enter Tryd.func36, Tryd.ntmps36
  go_wp2_with fail
  refine hC.mono ?_
  rintro e w1 ⟨rfl, rfl⟩
  clear hC
  go_wp2_with fail
  go_ret
  exact ⟨rfl, rfl⟩

/-- Whether bytes are a text of 1 to m bytes. -/
def isTx (s : ByteArray) (m : Nat) : Bool := decide (1 ≤ s.size) && (decide (s.size ≤ m) && Lib.validD s.data.toList)

set_option maxRecDepth 20000 in
theorem isText_any (s : ByteArray) (m : Nat) (w : World) (hs : s.size ≤ 1099511627776) (_hm : m ≤ 1099511627776) (hT : Tabs w) : Calls Tryd.prog 35 #[.string s, .int .i64 m] w fun e w' => e = .returned (.bool (isTx s m)) ∧ Below w.heap.size w w' := by
  have hV := valid_any s w (by omega) hT
  unfold isTx
  generalize Lib.validD s.data.toList = v at hV ⊢
  by_cases h1 : 1 ≤ s.size
  · by_cases h2 : s.size ≤ m
    · rw [decide_eq_true h1, decide_eq_true h2]
      go_enter Tryd.func35, Tryd.ntmps35
      go_wp2_with fail
      refine hV.mono ?_
      rintro e w1 ⟨rfl, hb⟩
      clear hV
      go_wp2_with fail
      go_ret
      exact ⟨rfl, hb⟩
    · rw [decide_eq_true h1, decide_eq_false h2]
      have h3 : ¬ (s.size : Int) ≤ (m : Int) := by omega
      clear hV
      go_enter Tryd.func35, Tryd.ntmps35
      go_wp2_with fail
      go_ret
      exact ⟨rfl, Below.refl _ _⟩
  · rw [decide_eq_false h1]
    have h3 : ¬ (1 : Int) ≤ (s.size : Int) := by omega
    clear hV
    go_enter Tryd.func35, Tryd.ntmps35
    go_wp2_with fail
    go_ret
    exact ⟨rfl, Below.refl _ _⟩

theorem Tabs.up {w w' : World} (h : Tabs w) (hb : Below w.heap.size w w') : Tabs w' := Utf8Tabs_below h hb

/-- Whether a text is a key. -/
def okS (s : ByteArray) : Bool := isTx s 8 && decide (Lib.indexByte s.data.toList 0 < 0)

/-- A text's bytes, with noughts behind. -/
def padS (s : ByteArray) : List Int := (s.data.toList.map fun x => (x.toNat : Int)) ++ List.replicate (8 - s.size) 0

theorem padS_len (s : ByteArray) (h : s.size ≤ 8) : (padS s).length = 8 := by
  unfold padS
  rw [List.length_append, List.length_map, List.length_replicate, ← Lib.size_eq]
  omega

theorem pad_row (s : ByteArray) (_h : s.size ≤ 8) : ((nums .u8 (List.replicate 8 0)).toList.take 0 ++ Lib.byteCells s.data.toList ++ (nums .u8 (List.replicate 8 0)).toList.drop (0 + s.size)).toArray = nums .u8 (padS s) := by
  unfold padS nums Lib.byteCells
  rw [List.take_zero, List.nil_append, Nat.zero_add, List.map_append, List.map_map, List.map_replicate]
  simp only [List.toArray_eq_iff, List.drop_replicate]
  simp [Function.comp_def]

theorem copy_pad (s : ByteArray) (h : s.size ≤ 8) (w : World) (g : Nat) (hg : ArrI 34 .u8 w g (List.replicate 8 0)) (ty sT : TypeId) (c : Nat) :
    (Builtin.copy_ #[27, sT] ty #[.slice (some ⟨g, 0, none⟩) 8 c, .string s]).run Tryd.prog w = .ok (goInt s.size) (w.setRow g (nums .u8 (padS s))) := by
  rw [Lib.run_copy_row_string w 27 sT ty 5 g 0 8 c s (nums .u8 (List.replicate 8 0)) 34 Tryd.underlying27 (by kernel_rfl) hg h (by simp [nums]; exact h), pad_row s h]

set_option maxRecDepth 20000 in
set_option maxHeartbeats 1000000 in
theorem key_any (s : ByteArray) (w : World) (hs : s.size ≤ 1099511627776) (hT : Tabs w) : Calls Tryd.prog 25 #[.string s] w fun e w' => ∃ xs : List Int, xs.length = 8 ∧ e = .returned (.tuple #[.agg (nums .u8 xs), .int .i64 (if okS s = true then 0 else 91)]) ∧ Below w.heap.size w w' := by
  have hZ0 : ArrI 34 .u8 ((w.alloc (.cells (nums .u8 (List.replicate 8 0)) 34)).alloc (.cells (nums .u8 (List.replicate 8 0)) 34)) w.heap.size (List.replicate 8 0) := (two_new8 w 34).1
  have hK0 : ArrI 34 .u8 ((w.alloc (.cells (nums .u8 (List.replicate 8 0)) 34)).alloc (.cells (nums .u8 (List.replicate 8 0)) 34)) (w.heap.size + 1) (List.replicate 8 0) := (two_new8 w 34).2.1
  have hb0 := (two_new8 w 34).2.2
  have hT0 := hT.up hb0
  rw [zero8] at hZ0 hK0 hb0 hT0
  have hi0 := info_nums .u8 (List.replicate 8 0) infoKy (by simp)
  rw [zero8] at hi0
  by_cases hx : isTx s 8 = true
  · have hs8 : s.size ≤ 8 := by unfold isTx at hx; simp at hx; exact hx.2.1
    by_cases hn : Lib.indexByte s.data.toList 0 < 0
    · have HO : Hid ((if okS s = true then (0 : Int) else 91) = 0) := by unfold Hid okS; rw [hx, decide_eq_true hn]; rfl
      have hC := fun W (h : Tabs W) => isText_any s 8 W hs (by decide) h
      have hI := fun W => ixByte_any s W
      rw [hx] at hC
      have hnn : ¬ (0 : Int) ≤ Lib.indexByte s.data.toList 0 := by omega
      generalize Lib.indexByte s.data.toList 0 = ix at hI hn hnn
      have hcp := fun (W : World) (h : ArrI 34 .u8 W (w.heap.size + 1) (List.replicate 8 0)) => copy_pad s hs8 W _ h
      have hpl := padS_len s hs8
      generalize padS s = pl at hcp hpl
      have hip := info_nums .u8 pl infoKy hpl
      have hszp : (nums .u8 (List.replicate 8 0)).size = (nums .u8 pl).size := by rw [nums_size, nums_size, hpl]; rfl
      rw [HO.out]
      clear HO hx hn hs8
      go_enter Tryd.func25, Tryd.ntmps25
      go_wp2_with fail
      refine (hC _ hT0).mono ?_
      rintro e w1 ⟨rfl, hb1⟩
      have hZ1 := hZ0.below hb1
      have hK1 := hK0.below hb1
      have hbb := hb0.trans (hb1.mono hb0.size)
      clear hC hZ0 hK0 hT0 hb0 hb1
      go_wp2_with fail
      refine (hI _).mono ?_
      rintro e w2 ⟨rfl, rfl⟩
      clear hI
      have hK2 := hK1.setRow pl
      have hZ2 := hZ1.rowOther (w.heap.size + 1) (nums .u8 pl) (by omega)
      have hb2 := hbb.trans (below_setRow w2 (w.heap.size + 1) (nums .u8 pl) (show w.heap.size ≤ w.heap.size + 1 by omega))
      have hZ3 := ArrI.setRow (xs := List.replicate 8 0) hZ2 pl
      have hb3 := hb2.trans (below_setRow _ w.heap.size (nums .u8 pl) (Nat.le_refl _))
      have hcp2 := hcp _ hK1
      clear hcp hZ1 hK1 hbb hb2
      go_wp2_with (first
        | refine wpList_copy_run _ rfl (.tmp 14) (.tmp 15) 27 9 rfl _ _ rfl rfl (hcp2 _ _ _) ?_
        | refine wpList_load_row rfl 34 _ rfl (w.heap.size + 1) rfl _ _ _ _ hK2 Tryd.underlying34 rfl hip ?_
        | refine wpList_store_row rfl 34 _ _ rfl w.heap.size (nums .u8 pl) rfl rfl _ _ hZ2 hip hszp (nums_one _ _) ?_)
      exact bodyPost_ret (results_row_tmp rfl _ _ w.heap.size _ _ _ rfl hZ3 Tryd.underlying34 rfl hip) rfl ⟨pl, hpl, rfl, hb3⟩
    · have HO : Hid ((if okS s = true then (0 : Int) else 91) = 91) := by unfold Hid okS; rw [hx, decide_eq_false hn]; rfl
      have hC := fun W (h : Tabs W) => isText_any s 8 W hs (by decide) h
      have hI := fun W => ixByte_any s W
      rw [hx] at hC
      have hnn : (0 : Int) ≤ Lib.indexByte s.data.toList 0 := by omega
      generalize Lib.indexByte s.data.toList 0 = ix at hI hn hnn
      rw [HO.out]
      clear HO hx hs8
      go_enter Tryd.func25, Tryd.ntmps25
      go_wp2_with fail
      refine (hC _ hT0).mono ?_
      rintro e w1 ⟨rfl, hb1⟩
      have hZ1 := hZ0.below hb1
      have hK1 := hK0.below hb1
      have hbb := hb0.trans (hb1.mono hb0.size)
      clear hC hZ0 hK0 hT0 hb0 hb1
      go_wp2_with fail
      refine (hI _).mono ?_
      rintro e w2 ⟨rfl, rfl⟩
      clear hI
      have hZ3 := ArrI.setRow (xs := List.replicate 8 0) hZ1 (List.replicate 8 0)
      have hb3 := hbb.trans (below_setRow w2 w.heap.size (nums .u8 (List.replicate 8 0)) (Nat.le_refl _))
      rw [zero8] at hZ3 hb3
      go_wp2_with (first
        | refine wpList_load_row rfl 34 _ rfl (w.heap.size + 1) rfl _ _ _ _ hK1 Tryd.underlying34 rfl hi0 ?_
        | refine wpList_store_row rfl 34 _ _ rfl w.heap.size _ rfl rfl _ _ hZ1 hi0 rfl (nums_one _ _) ?_)
      exact bodyPost_ret (results_row_tmp rfl _ _ w.heap.size _ _ _ rfl hZ3 Tryd.underlying34 rfl hi0) rfl ⟨List.replicate 8 0, rfl, rfl, hb3⟩
  · have hx2 : isTx s 8 = false := by simpa using hx
    have HO : Hid ((if okS s = true then (0 : Int) else 91) = 91) := by unfold Hid okS; rw [hx2]; rfl
    have hC := fun W (h : Tabs W) => isText_any s 8 W hs (by decide) h
    rw [hx2] at hC
    rw [HO.out]
    clear HO hx hx2
    go_enter Tryd.func25, Tryd.ntmps25
    go_wp2_with fail
    refine (hC _ hT0).mono ?_
    rintro e w1 ⟨rfl, hb1⟩
    have hZ1 := hZ0.below hb1
    have hK1 := hK0.below hb1
    have hbb := hb0.trans (hb1.mono hb0.size)
    clear hC hZ0 hK0 hT0 hb0 hb1
    have hZ3 := ArrI.setRow (xs := List.replicate 8 0) hZ1 (List.replicate 8 0)
    have hb3 := hbb.trans (below_setRow w1 w.heap.size (nums .u8 (List.replicate 8 0)) (Nat.le_refl _))
    rw [zero8] at hZ3 hb3
    go_wp2_with (first
      | refine wpList_load_row rfl 34 _ rfl (w.heap.size + 1) rfl _ _ _ _ hK1 Tryd.underlying34 rfl hi0 ?_
      | refine wpList_store_row rfl 34 _ _ rfl w.heap.size _ rfl rfl _ _ hZ1 hi0 rfl (nums_one _ _) ?_)
    exact bodyPost_ret (results_row_tmp rfl _ _ w.heap.size _ _ _ rfl hZ3 Tryd.underlying34 rfl hi0) rfl ⟨List.replicate 8 0, rfl, rfl, hb3⟩

/-- Whether a number is a key's. -/
def okK (n : Nat) : Bool := okS (strOfNums (nameL (eigL n)))

theorem name_size (k : List Int) (hl : k.length = 8) : (strOfNums (nameL k)).size ≤ 8 := by
  have h := trimN_le k 8
  rw [strOfNums_size]
  unfold nameL
  rw [List.length_take]
  omega

set_option maxRecDepth 20000 in
set_option maxHeartbeats 1000000 in
theorem isKey_any (n : Nat) (w : World) (hT : Tabs w) : Calls Tryd.prog 15 #[.agg #[.int .u8 (bt (n) 0), .int .u8 (bt (n) 1), .int .u8 (bt (n) 2), .int .u8 (bt (n) 3), .int .u8 (bt (n) 4), .int .u8 (bt (n) 5), .int .u8 (bt (n) 6), .int .u8 (bt (n) 7)]] w fun e w' => e = .returned (.bool (okK n)) ∧ Below w.heap.size w w' := by
  have hba := below_alloc w (.cells (nums .u8 (eigL n)) 34)
  have hY : ArrI 34 .u8 (w.alloc (.cells (nums .u8 (eigL n)) 34)) w.heap.size (eigL n) := ArrI.new _ .u8 w _
  have hN := name_any (eigL n) (eigL_len n)
  have hK := fun W (h : Tabs W) => key_any (strOfNums (nameL (eigL n))) W (Nat.le_trans (name_size _ (eigL_len n)) (by decide)) h
  have hT1 := hT.up hba
  have hi1 := info_nums .u8 (eigL n) infoKy (eigL_len n)
  rw [← nums_bt]
  have hR : ∀ z : Bool, ((if z = true then (0 : Int) else 91) == 0) = z := by decide
  unfold okK
  generalize strOfNums (nameL (eigL n)) = nm at hN hK ⊢
  go_enter Tryd.func15, Tryd.ntmps15
  go_wp2_with (refine wpList_load_row rfl 34 _ rfl w.heap.size rfl _ _ _ _ hY Tryd.underlying34 rfl hi1 ?_)
  refine (hN _).mono ?_
  rintro e w1 ⟨rfl, hb1⟩
  have hb2 := hba.trans (hb1.mono hba.size)
  have hT2 := hT1.up hb1
  go_wp2_with fail
  refine (hK _ hT2).mono ?_
  rintro e w2 ⟨xs, hxl, rfl, hb3⟩
  have hb4 := hb2.trans (hb3.mono hb2.size)
  have hi2 := info_nums .u8 xs infoKy hxl
  have hB : ArrI 34 .u8 (w2.alloc (.cells (nums .u8 (List.replicate 8 0)) 34)) w2.heap.size (List.replicate 8 0) := ArrI.new _ .u8 w2 _
  have hb5 := (hb4.alloc hb4.size (.cells (nums .u8 (List.replicate 8 0)) 34)).trans (below_setRow _ w2.heap.size (nums .u8 xs) hb4.size)
  have hsz : (nums .u8 (List.replicate 8 0)).size = (nums .u8 xs).size := by rw [nums_size, nums_size, hxl]; rfl
  rw [zero8] at hB hb5
  have hR2 := hR (okS nm)
  generalize (if okS nm = true then (0 : Int) else 91) = z at hR2 ⊢
  have HR : Hid ((z == 0) = okS nm) := hR2
  clear hR hR2 hN hK
  go_wp2_with (refine wpList_store_row rfl 34 _ _ rfl w2.heap.size (nums .u8 xs) rfl rfl _ _ hB hi2 hsz (nums_one _ _) ?_)
  go_ret
  exact ⟨ret_bool HR.out, hb5⟩

set_option maxRecDepth 20000 in
set_option maxHeartbeats 1000000 in
theorem nameK_any (s : ByteArray) (hs8 : s.size ≤ 8) (w : World) : Calls Tryd.prog 16 #[.string s] w fun e w' => e = .returned (.agg (nums .u8 (padS s))) ∧ Below w.heap.size w w' := by
  have hZ0 : ArrI 34 .u8 ((w.alloc (.cells (nums .u8 (List.replicate 8 0)) 34)).alloc (.cells (nums .u8 (List.replicate 8 0)) 34)) w.heap.size (List.replicate 8 0) := (two_new8 w 34).1
  have hK0 : ArrI 34 .u8 ((w.alloc (.cells (nums .u8 (List.replicate 8 0)) 34)).alloc (.cells (nums .u8 (List.replicate 8 0)) 34)) (w.heap.size + 1) (List.replicate 8 0) := (two_new8 w 34).2.1
  have hb0 := (two_new8 w 34).2.2
  have hcp := fun (W : World) (h : ArrI 34 .u8 W (w.heap.size + 1) (List.replicate 8 0)) => copy_pad s hs8 W _ h
  have hpl := padS_len s hs8
  generalize padS s = pl at hcp hpl ⊢
  have hip := info_nums .u8 pl infoKy hpl
  have hszp : (nums .u8 (List.replicate 8 0)).size = (nums .u8 pl).size := by rw [nums_size, nums_size, hpl]; rfl
  rw [zero8] at hZ0 hK0 hb0
  have hcp2 := hcp _ hK0
  have hK2 := hK0.setRow pl
  have hZ2 := hZ0.rowOther (w.heap.size + 1) (nums .u8 pl) (by omega)
  have hb2 := hb0.trans (below_setRow _ (w.heap.size + 1) (nums .u8 pl) (show w.heap.size ≤ w.heap.size + 1 by omega))
  have hZ3 := ArrI.setRow (xs := List.replicate 8 0) hZ2 pl
  have hb3 := hb2.trans (below_setRow _ w.heap.size (nums .u8 pl) (Nat.le_refl _))
  clear hcp hZ0 hK0 hb0 hb2
  go_enter Tryd.func16, Tryd.ntmps16
  go_wp2_with (first
    | refine wpList_copy_run _ rfl (.tmp 4) (.tmp 5) 27 9 rfl _ _ rfl rfl (hcp2 _ _ _) ?_
    | refine wpList_load_row rfl 34 _ rfl (w.heap.size + 1) rfl _ _ _ _ hK2 Tryd.underlying34 rfl hip ?_
    | refine wpList_store_row rfl 34 _ _ rfl w.heap.size (nums .u8 pl) rfl rfl _ _ hZ2 hip hszp (nums_one _ _) ?_)
  exact bodyPost_ret (results_cell_row rfl _ _ w.heap.size _ _ _ _ rfl hZ3 Tryd.underlying34 rfl hip) rfl ⟨rfl, hb3⟩

end Go.Proofs.YtphdbpljgilcgaaDoor.M
