/-
  Own text: whether places are an order of calls: the contract of Fits.
-/
import Derived.Test.YtmfmjoibofadlaaOFnd0
import Derived.Test.YtmfmjoibofadlaaOPast
namespace Go.Proofs.Ytmfmjoibofadlaa.M
open Go.ChangeShapes Go.WideShapes Go.ChangeAt Go.RowKit
set_option linter.unusedSimpArgs false

/-- Whether an order goes on from a point by these places. -/
def fitG (L : List Lo) : List Int → Nat → ByteArray → Bool
  | [], d, _ => overB (musN L L.length) d
  | i :: r, d, v => if openB L.length L (ahL L) d v i = true then fitG L r (d ||| bitN i) (L.getD i.toNat .z0).s else false

/-- What Fits tells. -/
def fitsO (L : List Lo) (row : List Int) : Bool := if rightO L = 0 then fitG L row 0 ⟨#[]⟩ else false

theorem rightO_len {L : List Lo} (h : rightO L = 0) : L.length ≤ 24 := by
  unfold rightO at h
  split at h
  · cases h
  · omega

/-- The point in a box. -/
structure Pnt (w : World) (g d : Nat) (v : ByteArray) : Prop where
  c0 : w.cell? ⟨g, 0, none⟩ = some (.int .u64 (d : Int))
  c1 : w.cell? ⟨g, 1, none⟩ = some (.string v)
  f0 : w.frozen? ⟨g, 0, none⟩ = false
  f1 : w.frozen? ⟨g, 1, none⟩ = false

theorem Pnt.below {w w' : World} {g d : Nat} {v : ByteArray} (h : Pnt w g d v) (hb : Below w.heap.size w w') : Pnt w' g d v := by
  have hlt := World.block_lt_of_cell? _ _ h.c0
  exact ⟨by rw [hb.cell (p := ⟨g, 0, none⟩) hlt]; exact h.c0, by rw [hb.cell (p := ⟨g, 1, none⟩) hlt]; exact h.c1, by rw [hb.frozen (p := ⟨g, 0, none⟩) hlt]; exact h.f0, by rw [hb.frozen (p := ⟨g, 1, none⟩) hlt]; exact h.f1⟩

theorem RdO.ch0 {S : Nat → Prop} {w w' : World} {p : Option Addr} {n c : Nat} {xs : List Lo} (h : RdO w p n c xs) (hc : Ch S w w') (hs : 0 < n → ∀ a, p = some a → ¬ S a.block) : RdO w' p n c xs := by
  rcases Nat.eq_zero_or_pos n with h0 | h0
  · exact ⟨h.len, h.cap, h.nil, fun hn => by omega⟩
  · exact h.ch hc (hs h0)

theorem Pa.ch {S : Nat → Prop} {w w' : World} {h : Nat} {p : Option Addr} {n c : Nat} {q : Option Addr} {d : Nat} {L : List Lo} {mu : Nat} {ah : List Int} (H : Pa w h p n c q d L mu ah) (hc : Ch S w w') (hh : ¬ S h) (hp : 0 < n → ∀ a, p = some a → ¬ S a.block) (hq : ∀ a, q = some a → ¬ S a.block) : Pa w' h p n c q d L mu ah := by
  have hlt := World.block_lt_of_cell? _ _ H.c0
  exact ⟨by rw [hc.cell (p := ⟨h, 0, none⟩) hlt hh]; exact H.c0, by rw [hc.cell (p := ⟨h, 1, none⟩) hlt hh]; exact H.c1, by rw [hc.cell (p := ⟨h, 2, none⟩) hlt hh]; exact H.c2, H.ops.ch0 hc hp, H.sets.ch hc hq, H.mul, H.wd⟩

/-- Calls and their sets in block h, a point in block g; all else lies as it did. -/
structure FI (w : World) (B h g : Nat) (p : Option Addr) (n c : Nat) (q : Option Addr) (L : List Lo) (mu : Nat) (ah : List Int) (d : Nat) (v : ByteArray) (W : World) : Prop where
  bel : Below w.heap.size w W
  pa : Pa W h p n c q n L mu ah
  pnt : Pnt W g d v
  hg : h < g
  hB : B ≤ h
  hw : w.heap.size ≤ g
  kp : 0 < n → ∀ a, p = some a → a.block < B
  kq : ∀ a, q = some a → a.block < B

theorem FI.below {w : World} {B h g : Nat} {p : Option Addr} {n c : Nat} {q : Option Addr} {L : List Lo} {mu : Nat} {ah : List Int} {d : Nat} {v : ByteArray} {W W' : World} (H : FI w B h g p n c q L mu ah d v W) (hb : Below W.heap.size W W') : FI w B h g p n c q L mu ah d v W' :=
  ⟨H.bel.trans (hb.mono H.bel.size), H.pa.below hb, H.pnt.below hb, H.hg, H.hB, H.hw, H.kp, H.kq⟩

theorem FI.put {w : World} {B h g : Nat} {p : Option Addr} {n c : Nat} {q : Option Addr} {L : List Lo} {mu : Nat} {ah : List Int} {d : Nat} {v : ByteArray} {W : World} (H : FI w B h g p n c q L mu ah d v W) (d' : Nat) (v' : ByteArray) : FI w B h g p n c q L mu ah d' v' (W.setCells g 0 [.int .u64 (d' : Int), .string v']) := by
  obtain ⟨c0, c1, f0, f1⟩ := H.pnt
  have hh := H.hg
  have hB := H.hB
  have e1 : Ch (fun k => k = g) W (W.setCell ⟨g, 0, none⟩ (.int .u64 (d' : Int))) := Ch.setCell W ⟨g, 0, none⟩ _
  have e2 : Ch (fun k => k = g) (W.setCell ⟨g, 0, none⟩ (.int .u64 (d' : Int))) ((W.setCell ⟨g, 0, none⟩ (.int .u64 (d' : Int))).setCell ⟨g, 1, none⟩ (.string v')) := Ch.setCell _ ⟨g, 1, none⟩ _
  have e := e1.trans e2
  have h2 : (W.setCell ⟨g, 0, none⟩ (.int .u64 (d' : Int))).cell? ⟨g, 1, none⟩ = some (.string v) := by rw [World.cell?_setCell_other (h := fun e => absurd (congrArg Addr.off e) (by simp))]; exact c1
  show FI w B h g p n c q L mu ah d' v' ((W.setCell ⟨g, 0, none⟩ (.int .u64 (d' : Int))).setCell ⟨g, 1, none⟩ (.string v'))
  refine ⟨?_, H.pa.ch e (by omega) (fun h0 a ha => ?_) (fun a ha => ?_), ⟨?_, ?_, ?_, ?_⟩, hh, hB, H.hw, H.kp, H.kq⟩
  · exact (H.bel.setCell (p := ⟨g, 0, none⟩) H.hw _).setCell (p := ⟨g, 1, none⟩) H.hw _
  · have := H.kp h0 a ha; omega
  · have := H.kq a ha; omega
  · rw [World.cell?_setCell_other (h := fun e => absurd (congrArg Addr.off e) (by simp))]
    exact World.cell?_setCell_same _ _ _ c0
  · exact World.cell?_setCell_same _ _ _ h2
  · rw [World.frozen?_setCell, World.frozen?_setCell]; exact f0
  · rw [World.frozen?_setCell, World.frozen?_setCell]; exact f1

theorem FI.there {w : World} {B h g : Nat} {p : Option Addr} {n c : Nat} {q : Option Addr} {L : List Lo} {mu : Nat} {ah : List Int} {d : Nat} {v : ByteArray} {W : World} (H : FI w B h g p n c q L mu ah d v W) : W.there g 0 2 := fun j hj => by
  rw [Nat.zero_add]
  match j, hj with
  | 0, _ => exact ⟨by rw [H.pnt.c0]; rfl, H.pnt.f0⟩
  | 1, _ => exact ⟨by rw [H.pnt.c1]; rfl, H.pnt.f1⟩

theorem FI.made {w w2 : World} {p : Option Addr} {n c b : Nat} {L : List Lo} {mu : Nat} {ah : List Int} (hb : Below w.heap.size w w2) (hr : RdO w2 p n c L) (hA : ArrI 51 .u64 w2 b ah) (hn : ah.length = n) (hm : mu < 18446744073709551616) (hwd : Wd ah) (hp : 0 < n → ∀ a, p = some a → a.block < w2.heap.size) :
    FI w w2.heap.size w2.heap.size (w2.heap.size + 1) p n c (some ⟨b, 0, none⟩) L mu ah 0 ⟨#[]⟩ ((w2.alloc (.cells #[.slice p n c, .int .u64 (mu : Int), .slice (some ⟨b, 0, none⟩) n n] 56)).alloc (.cells #[.int .u64 0, .string ⟨#[]⟩] 53)) := by
  have b1 := below_alloc w2 (.cells #[.slice p n c, .int .u64 (mu : Int), .slice (some ⟨b, 0, none⟩) n n] 56)
  have b2 := b1.trans ((below_alloc (w2.alloc (.cells #[.slice p n c, .int .u64 (mu : Int), .slice (some ⟨b, 0, none⟩) n n] 56)) (.cells #[.int .u64 0, .string ⟨#[]⟩] 53)).mono b1.size)
  have hs : (w2.alloc (.cells #[.slice p n c, .int .u64 (mu : Int), .slice (some ⟨b, 0, none⟩) n n] 56)).heap.size = w2.heap.size + 1 := by simp
  have hA2 := hA.below b2
  refine ⟨hb.trans (b2.mono hb.size), ⟨?_, ?_, ?_, hr.below b2, ⟨hn, Nat.le_refl _, (fun h => by cases h), fun h0 => ⟨b, 0, rfl, fun i hi => ?_⟩⟩, hm, hwd⟩, ⟨?_, ?_, ?_, ?_⟩, Nat.lt_succ_self _, Nat.le_refl _, Nat.le_succ_of_le hb.size, hp, fun a ha => ?_⟩
  · simp
  · simp
  · simp
  · rw [Nat.zero_add]; exact hA2.cell (by omega)
  · rw [← hs]; simp
  · rw [← hs]; simp
  · rw [← hs]; exact frozen_of_row _ _ 0 _ _ (heap_alloc_new _ _)
  · rw [← hs]; exact frozen_of_row _ _ 1 _ _ (heap_alloc_new _ _)
  · cases ha; exact hA.lt

theorem sizePt : (Try.prog.info? 53).map (·.size) = some 2 := by kernel_rfl

set_option maxRecDepth 20000 in
set_option maxHeartbeats 4000000 in
theorem fits_any (rp : Option Addr) (rn rc : Nat) (row : List Int) (p : Option Addr) (n c : Nat) (L : List Lo) (w : World) (hrow : Rd .i64 w rp rn rc row) (hrn : rn ≤ 1099511627776) (hr : RdO w p n c L) :
    Calls Try.prog 16 #[.slice rp rn rc, .slice p n c] w fun e w' => e = .returned (.bool (fitsO L row)) ∧ Below w.heap.size w w' := by
  have hR := right_any p n c L w hr
  have hlen := hr.len
  by_cases h0 : rightO L = 0
  · have hE : Hid (fitsO L row = fitG L row 0 ⟨#[]⟩) := by unfold Hid fitsO; rw [if_pos h0]
    have h24 := rightO_len h0
    rw [h0] at hR
    have hP := fun W (hW : Below w.heap.size w W) => pastOf_any p n c L W (hr.below hW) (by omega)
    have hahl : (ahL L).length = n := by unfold ahL; simp [hlen]
    have hmul := musN_lt L n
    have hwd := ahL_wd L
    go_enter Try.func16, Try.ntmps16
    go_wp2_with fail
    refine hR.mono ?_
    rintro e1 w1 ⟨rfl, hb1⟩
    clear hR
    go_wp2_with fail
    refine (hP w1 hb1).mono ?_
    rintro e2 w2 ⟨rfl, hArr, hb2⟩
    clear hP
    have hbb2 := hb1.trans (hb2.mono hb1.size)
    have hF0 := FI.made hbb2 (hr.below hbb2) hArr hahl hmul hwd (fun h0 a ha => by
      obtain ⟨b, o, hp2, hc2⟩ := (hr.below hbb2).cells h0
      rw [ha] at hp2
      cases hp2
      exact World.block_lt_of_cell? _ _ (hc2 0 h0).1)
    have hLn : Hid (L.length = n) := hlen
    clear hlen
    go_wp2_with fail
    generalize ((w2.alloc (.cells #[.slice p n c, .int .u64 (musN L n : Int), .slice (some ⟨w1.heap.size + 1, 0, none⟩) n n] 56)).alloc (.cells #[.int .u64 0, .string ⟨#[]⟩] 53)) = w3 at *
    have hgg : w2.heap.size < w2.heap.size + 1 := Nat.lt_succ_self _
    generalize w2.heap.size + 1 = g at *
    generalize w2.heap.size = h at *
    generalize hq : some (Addr.mk (w1.heap.size + 1) 0 none) = q at *
    clear hArr hb2 hbb2 hb1 hq
    go_loopw [17] (fun vi wr => ∃ (k d : Nat) (v : ByteArray), k ≤ rn ∧ vi = .int .i64 k ∧ d < 18446744073709551616 ∧ FI w h h g p n c q L (musN L n) (ahL L) d v wr ∧ Hid (fitsO L row = fitG L (row.drop k) d v)) (fun vi _ => rn - (intOf vi).toNat)
    case atStart => exact ⟨0, 0, ⟨#[]⟩, Nat.zero_le _, rfl, by decide, hF0, hE⟩
    case round =>
      clear hF0 hE
      obtain ⟨k, d, v, hk, rfl, hd, hF, HG⟩ := hrel
      obtain ⟨x0, x1, _, _⟩ := hF.pnt
      by_cases hkn : k < rn
      · have hkr : (k : Int) < (rn : Int) := by omega
        obtain ⟨b, o, rfl, hrc⟩ := (hrow.below hF.bel).cells (by omega)
        have y0 := hrc k hkn
        clear hrc
        have hO := fun i => open_any wr h p n c q n L (musN L n) (ahL L) hF.pa d hd v i
        have hdr : row.drop k = row.getD k 0 :: row.drop (k + 1) := drop_int (by have := hrow.len; omega)
        have hG2 : Hid (fitsO L row = if openB n L (ahL L) d v (row.getD k 0) = true then fitG L (row.drop (k + 1)) (d ||| bitN (row.getD k 0)) (L.getD (row.getD k 0).toNat .z0).s else false) := by
          unfold Hid
          rw [HG.out, hdr]
          show (if openB L.length L (ahL L) d v (row.getD k 0) = true then _ else _) = _
          rw [hLn.out]
        clear HG hdr
        generalize row.getD k 0 = i at *
        have hO2 := hO i
        clear hO
        generalize hob : openB n L (ahL L) d v i = ob at hO2 hG2
        go_wp2_with fail
        refine hO2.mono ?_
        rintro e3 w4 ⟨rfl, hb4⟩
        clear hO2
        have hF4 := hF.below hb4
        obtain ⟨z0, z1, _, _⟩ := hF4.pnt
        cases ob with
        | false =>
          have HN : Hid (fitsO L row = false) := hG2
          clear hG2 hob
          have hbw := hF4.bel
          go_wp2_with fail
          go_ret
          exact ⟨ret_bool HN.out.symm, hbw⟩
        | true =>
          have hi0 : 0 ≤ i ∧ i < n := by
            unfold openB at hob
            simp only [Bool.and_eq_true, Bool.not_eq_true', decide_eq_false_iff_not] at hob
            omega
          obtain ⟨m, rfl⟩ : ∃ m : Nat, i = (m : Int) := ⟨i.toNat, by omega⟩
          have hm : m < n := by omega
          have hbh := behind_any w4 h p n c q n L (musN L n) (ahL L) hF4.pa d hd v m hm
          have HN : Hid (fitsO L row = fitG L (row.drop (k + 1)) (d ||| bitN (m : Int)) (L.getD m .z0).s) := hG2
          clear hG2 hob
          go_wp2_with fail
          refine hbh.mono ?_
          rintro e4 w5 ⟨rfl, hb5⟩
          clear hbh
          have hF5 := hF4.below hb5
          obtain ⟨q0, q1, q2, q3⟩ := hF5.pnt
          have hput := hF5.put (d ||| bitN (m : Int)) (L.getD m .z0).s
          have hd2 : d ||| bitN (m : Int) < 18446744073709551616 := or_lt64 hd (bitN_lt _)
          generalize (L.getD m .z0).s = v2 at *
          generalize d ||| bitN (m : Int) = d2 at *
          have q4 : (w5.setCell ⟨g, 0, none⟩ (.int .u64 (d2 : Int))).cell? ⟨g, 1, none⟩ = some (.string v) := by rw [World.cell?_setCell_other (h := fun e => absurd (congrArg Addr.off e) (by simp))]; exact q1
          have q5 : (w5.setCell ⟨g, 0, none⟩ (.int .u64 (d2 : Int))).frozen? ⟨g, 1, none⟩ = false := by rw [World.frozen?_setCell]; exact q3
          clear hF hF4 hF5 hb4 hb5
          go_wp2_with fail
          go_roundw
          case rel => exact ⟨k + 1, d2, v2, by omega, by go_num, hd2, hput, HN⟩
          case measure => simp [intOf]; omega
      · obtain rfl : k = rn := by omega
        have hov := over_any wr h p n c q n L (musN L n) (ahL L) hF.pa d hd v
        have HN : Hid (fitsO L row = overB (musN L n) d) := by
          unfold Hid
          rw [HG.out, List.drop_of_length_le (by have := hrow.len; omega)]
          show overB (musN L L.length) d = _
          rw [hLn.out]
        generalize overB (musN L n) d = r at *
        clear HG
        go_wp2_with fail
        refine hov.mono ?_
        rintro e3 w4 ⟨rfl, hb4⟩
        have hbw := (hF.below hb4).bel
        clear hov
        go_wp2_with fail
        go_ret
        exact ⟨ret_bool HN.out.symm, hbw⟩
  · have hE : Hid (fitsO L row = false) := by unfold Hid fitsO; rw [if_neg h0]
    clear hrow hr
    generalize rightO L = z at *
    go_enter Try.func16, Try.ntmps16
    go_wp2_with fail
    refine hR.mono ?_
    rintro e1 w1 ⟨rfl, hb1⟩
    clear hR
    go_wp2_with fail
    go_ret
    exact ⟨ret_bool hE.out.symm, hb1⟩

end Go.Proofs.Ytmfmjoibofadlaa.M
