/-
  Own text: bytes as texts; the records of a tape as texts.
-/
import Derived.Test.YtpjhadaiodnnaaaTOpen0
import Derived.Laws.BytesArg
import Derived.Lib.ConvBytes
namespace Go.Proofs.Ytpjhadaiodnnaaa.M
open Go.ChangeShapes Go.WideShapes Go.ChangeAt Go.RowKit
set_option linter.unusedSimpArgs false

theorem Rd.str {w : World} {p : Option Addr} {n c : Nat} {xs : List Int} (h : Rd .u8 w p n c xs) : (convert 22 9 (.slice p n c)).run Try.prog w = .ok (.string (strOfNums xs)) w :=
  h.conv (P := Try.prog) 22 5 9 Try.underlying22 Try.underlying5 Try.underlying9

/-- Lists of bytes as texts. -/
def strs (xss : List (List Int)) : List Value := xss.map fun x => .string (strOfNums x)

theorem strs_snoc {l : List (List Int)} {k : Nat} (h : k < l.length) : strs (l.take (k + 1)) = strs (l.take k) ++ [.string (strOfNums (l.getD k []))] := by
  unfold strs
  rw [take_snocV h, List.map_append]
  rfl

theorem infoT : (Try.prog.info? 9).map (fun i => (i.zero, i.size, i.bytes)) = some (some (.string ByteArray.empty), 1, 16) := by kernel_rfl

set_option maxRecDepth 20000 in
set_option maxHeartbeats 2000000 in
theorem records_any (w : World) (gt g : Nat) (pr : Option Addr) (n cr : Nat) (vs : List Value) (recs : List (List Int)) (h0 : w.cell? ⟨gt, 0, none⟩ = some (.pointer (some ⟨g, 0, none⟩))) (h5 : w.cell? ⟨gt, 5, none⟩ = some (.slice pr n cr)) (hv : RdV w pr n cr vs) (hs : Sls w vs recs) (hn : n = recs.length) (hfew : n ≤ 1099511627776) (hrec : ∀ i, i < recs.length → (recs.getD i []).length ≤ 1099511627776) :
    Calls Try.prog 31 #[.pointer (some ⟨gt, 0, none⟩)] w fun e w' => (∃ p' c', e = .returned (.slice p' n c') ∧ OwV 9 w' w.heap.size p' n c' (strs recs)) ∧ Below w.heap.size w w' := by
  have hL := TLen_ok w gt g pr n cr h0 h5
  obtain ⟨i0, hi0, hz0, hz1, hz2⟩ := info_parts infoT
  have HN : Hid (n = recs.length) := hn
  have HV : Hid (RdV w pr n cr vs) := hv
  have HS : Hid (Sls w vs recs) := hs
  have HR : Hid (∀ i, i < recs.length → (recs.getD i []).length ≤ 1099511627776) := hrec
  have H5 : Hid (w.cell? ⟨gt, 5, none⟩ = some (.slice pr n cr)) := h5
  have H0 : Hid (w.cell? ⟨gt, 0, none⟩ = some (.pointer (some ⟨g, 0, none⟩))) := h0
  clear hn hv hs hrec h5 h0
  go_enter Try.func31, Try.ntmps31
  go_wp2_with fail
  refine hL.mono ?_
  rintro e w1 ⟨rfl, hb1⟩
  clear hL
  have HB1 : Hid (Below w.heap.size w w1) := hb1
  clear hb1
  go_wp2_with fail
  go_loopw [9, 3] (fun ix l wr => ∃ (k : Nat) (p' : Option Addr) (c' : Nat), k ≤ n ∧ ix = .int .i64 k ∧ l = .slice p' k c' ∧ OwV 9 wr w.heap.size p' k c' (strs (recs.take k)) ∧ Below w.heap.size w wr) (fun ix _ _ => n - (intOf ix).toNat)
  case atStart => exact ⟨0, none, 0, by omega, rfl, rfl, OwV.empty _ _ _ _, HB1.out⟩
  case round =>
    obtain ⟨k, p', c', hk, rfl, rfl, ho, hb⟩ := hrel
    by_cases hkn : k < n
    · have hki : (k : Int) < (n : Int) := by omega
      have hkr : k < recs.length := by rw [← HN.out]; exact hkn
      obtain ⟨b, o, rfl, hcl⟩ := HV.out.cells (by omega)
      obtain ⟨q, m, d, hq, hr⟩ := HS.out.2 k (by rw [HS.out.1]; exact hkr)
      have hxl : m ≤ 1099511627776 := by rw [← hr.len]; exact HR.out k hkr
      have hA := TAt_ok wr gt g b o n cr k hkn (cell_below hb H0.out) (cell_below hb H5.out) q m d (by rw [cell_below hb (hcl k hkn), hq]) _ (hr.below hb) hxl
      obtain ⟨xs, hxs⟩ : ∃ z, Hid (z = recs.getD k []) := ⟨_, rfl⟩
      rw [← hxs.out] at hA
      clear hcl hq hr hxl
      go_wp2_with fail
      refine hA.mono ?_
      rintro e w2 ⟨⟨p2, c2, rfl, hO2⟩, hb2⟩
      clear hA
      have hst := (hO2.rd).str
      have hbb := hb.trans (hb2.mono hb.size)
      have hoL := ho.below hb2
      have hc1 : (w2.alloc (.cells #[.string (strOfNums xs)] 9)).cell? ⟨w2.heap.size, 0, none⟩ = some (.string (strOfNums xs)) := by simp
      have hsz := hbb.size
      clear hb hb2 ho hO2
      go_wp2_with (refine wpList_appV _ rfl (.tmp 18) (.tmp 21) 49 rfl 9 i0 (.string ByteArray.empty) 16 Try.underlying49 hi0 hz0 hz1 hz2 rfl w.heap.size p' k c' _ rfl (hoL.below (below_alloc _ _)) _ _ _ _ rfl hc1 rfl ?b1 ?b2 ?b3 ?_)
      case b1 => omega
      case b2 => unfold maxLen; omega
      case b3 => (simp; omega)
      intro p3 c3 w3 ho3 hb3 hk3
      have hbb3 := (hbb.alloc hbb.size (.cells #[.string (strOfNums xs)] 9)).trans hb3
      have HO3 : Hid (OwV 9 w3 w.heap.size p3 (k + 1) c3 (strs (recs.take (k + 1)))) := by
        show OwV _ _ _ _ _ _ _
        rw [strs_snoc hkr, ← hxs.out]
        exact ho3
      clear ho3 hoL hbb hb3 hk3 hst hc1
      go_wp2_with fail
      go_roundw
      case rel => exact ⟨k + 1, p3, c3, by omega, by go_num, by go_num, HO3.out, hbb3⟩
      case measure => simp [intOf]; omega
    · obtain rfl : k = n := by omega
      have HO : Hid (OwV 9 wr w.heap.size p' k c' (strs recs)) := by
        show OwV _ _ _ _ _ _ _
        have h1 : recs.take k = recs := List.take_of_length_le (by rw [← HN.out]; exact Nat.le_refl _)
        rw [h1] at ho
        exact ho
      clear ho
      go_wp2_with fail
      go_ret
      exact ⟨⟨p', c', rfl, HO.out⟩, hb⟩

end Go.Proofs.Ytpjhadaiodnnaaa.M
