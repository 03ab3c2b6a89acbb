/-
  Own text: whether a key, and a value, may be.
-/
import Derived.Test.YtnbgdkdnlfomeaaDoorBDat
namespace Go.Proofs.YtnbgdkdnlfomeaaDoor.M
open Go.ChangeShapes Go.WideShapes Go.ChangeAt Go.RowKit Go.Shelf Go.Proofs
set_option linter.unusedSimpArgs false

/-- What Right tells. -/
def rightK (k : Nat) (s : ByteArray) : Int := if okK k = true then (if isTx s 24 = true then 0 else 91) else 91

set_option maxRecDepth 20000 in
set_option maxHeartbeats 1000000 in
theorem right_any (k : Nat) (s : ByteArray) (hs : s.size ≤ 9223372036854775807) (w : World) (hT : Tabs w) : Calls Tryd.prog 64 #[.agg #[.int .u8 (bt (k) 0), .int .u8 (bt (k) 1), .int .u8 (bt (k) 2), .int .u8 (bt (k) 3), .int .u8 (bt (k) 4), .int .u8 (bt (k) 5), .int .u8 (bt (k) 6), .int .u8 (bt (k) 7)], .string s] w fun e w' => e = .returned (.int .i64 (rightK k s)) ∧ Below w.heap.size w w' := by
  have hba := below_alloc w (.cells (nums .u8 (eigL k)) 28)
  have hY : ArrI 28 .u8 (w.alloc (.cells (nums .u8 (eigL k)) 28)) w.heap.size (eigL k) := ArrI.new _ .u8 w _
  have hN := name_any (eigL k) (eigL_len k)
  have hK := fun W (h : Tabs W) => key_any (strOfNums (nameL (eigL k))) W (Nat.le_trans (name_size _ (eigL_len k)) (by decide)) h
  have hX := fun W (h : Tabs W) => isText_any s 24 W hs (by decide) h
  have hT1 := hT.up hba
  have hi1 := info_nums .u8 (eigL k) infoKy (eigL_len k)
  rw [← nums_bt]
  have HR : Hid (rightK k s = if okS (strOfNums (nameL (eigL k))) = true then (if isTx s 24 = true then 0 else 91) else 91) := rfl
  generalize rightK k s = r at *
  generalize strOfNums (nameL (eigL k)) = nm at *
  generalize isTx s 24 = tx at *
  go_enter Tryd.func64, Tryd.ntmps64
  go_wp2_with (refine wpList_load_row rfl 28 _ rfl w.heap.size rfl _ _ _ _ hY Tryd.underlying28 rfl hi1 ?_)
  refine (hN _).mono ?_
  rintro e w1 ⟨rfl, hb1⟩
  have hb2 := hba.trans (hb1.mono hba.size)
  have hT2 := hT1.up hb1
  go_wp2_with fail
  refine (hK _ hT2).mono ?_
  rintro e w2 ⟨xs, hxl, rfl, hb3⟩
  have hb4 := hb2.trans (hb3.mono hb2.size)
  have hi2 := info_nums .u8 xs infoKy hxl
  have hB : ArrI 28 .u8 (w2.alloc (.cells (nums .u8 (List.replicate 8 0)) 28)) w2.heap.size (List.replicate 8 0) := ArrI.new _ .u8 w2 _
  have hb5 := (hb4.alloc hb4.size (.cells (nums .u8 (List.replicate 8 0)) 28)).trans (below_setRow _ w2.heap.size (nums .u8 xs) hb4.size)
  have hT5 := hT.up hb5
  have hsz : (nums .u8 (List.replicate 8 0)).size = (nums .u8 xs).size := by rw [nums_size, nums_size, hxl]; rfl
  rw [zero8] at hB hb5 hT5
  have hX5 := hX _ hT5
  clear hK hN hX hT hT1 hT2
  generalize okS nm = ok at *
  cases ok with
  | false =>
    have HN : Hid (r = 91) := HR.out
    clear HR hX5
    go_wp2_with (refine wpList_store_row rfl 28 _ _ rfl w2.heap.size (nums .u8 xs) rfl rfl _ _ hB hi2 hsz (nums_one _ _) ?_)
    go_ret
    exact ⟨ret_int HN.out.symm, hb5⟩
  | true =>
    have HN : Hid (r = if tx = true then 0 else 91) := HR.out
    clear HR
    go_wp2_with (refine wpList_store_row rfl 28 _ _ rfl w2.heap.size (nums .u8 xs) rfl rfl _ _ hB hi2 hsz (nums_one _ _) ?_)
    refine hX5.mono ?_
    rintro e w3 ⟨rfl, hb6⟩
    have hb7 := hb5.trans (hb6.mono hb5.size)
    clear hX5
    cases tx with
    | false =>
      go_wp2_with fail
      go_ret
      exact ⟨ret_int HN.out.symm, hb7⟩
    | true =>
      go_wp2_with fail
      go_ret
      exact ⟨ret_int HN.out.symm, hb7⟩

end Go.Proofs.YtnbgdkdnlfomeaaDoor.M
