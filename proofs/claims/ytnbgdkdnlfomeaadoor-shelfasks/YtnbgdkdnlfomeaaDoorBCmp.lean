/-
  Own text: keys one against the other.
-/
import Derived.Test.YtnbgdkdnlfomeaaDoorBKey
import Derived.Test.YtnbgdkdnlfomeaaDoorBDet
import Derived.Lib.BytesEntry
namespace Go.Proofs.YtnbgdkdnlfomeaaDoor.M
open Go.ChangeShapes Go.WideShapes Go.ChangeAt Go.RowKit Go.ChangeMaps Go.MapKept Go.Maps Go.Shelf Go.Proofs
set_option linter.unusedSimpArgs false

/-- One number against the other. -/
def cmpN (a b : Nat) : Int := if a < b then -1 else if b < a then 1 else 0

/-- The number of which bytes are the digits. -/
def beN : List Int → Nat
  | [] => 0
  | x :: l => x.toNat * 256 ^ l.length + beN l

theorem beN_lt : ∀ {l : List Int}, Byt l → beN l < 256 ^ l.length
  | [], _ => by decide
  | x :: l, h => by
    have h1 := beN_lt (l := l) fun y hy => h y (List.mem_cons_of_mem _ hy)
    have h2 := h x (List.mem_cons_self ..)
    have h3 : (x.toNat + 1) * 256 ^ l.length ≤ 256 * 256 ^ l.length := Nat.mul_le_mul_right _ (by omega)
    rw [Nat.succ_mul] at h3
    show x.toNat * 256 ^ l.length + beN l < 256 ^ (l.length + 1)
    rw [Nat.pow_succ, Nat.mul_comm (256 ^ l.length) 256]
    omega

theorem u8_lt {a b : Nat} (ha : a < 256) (hb : b < 256) : a.toUInt8 < b.toUInt8 ↔ a < b := by
  rw [UInt8.lt_iff_toNat_lt]
  show a.toUInt8.toNat < b.toUInt8.toNat ↔ a < b
  rw [show a.toUInt8.toNat = a % 256 from rfl, show b.toUInt8.toNat = b % 256 from rfl, Nat.mod_eq_of_lt ha, Nat.mod_eq_of_lt hb]

theorem cmp_be : ∀ {xs ys : List Int}, xs.length = ys.length → Byt xs → Byt ys → Lib.compareBytes (Lib.bytesOf xs) (Lib.bytesOf ys) = cmpN (beN xs) (beN ys)
  | [], [], _, _, _ => rfl
  | x :: xs, y :: ys, hl, hx, hy => by
    have hl2 : xs.length = ys.length := by simpa using hl
    have ih := cmp_be hl2 (fun u hu => hx u (List.mem_cons_of_mem _ hu)) (fun u hu => hy u (List.mem_cons_of_mem _ hu))
    have bx := beN_lt (l := xs) (fun u hu => hx u (List.mem_cons_of_mem _ hu))
    have by' := beN_lt (l := ys) (fun u hu => hy u (List.mem_cons_of_mem _ hu))
    have ex := hx x (List.mem_cons_self ..)
    have ey := hy y (List.mem_cons_self ..)
    show (if x.toNat.toUInt8 < y.toNat.toUInt8 then (-1 : Int) else if y.toNat.toUInt8 < x.toNat.toUInt8 then 1 else Lib.compareBytes (Lib.bytesOf xs) (Lib.bytesOf ys)) = cmpN (x.toNat * 256 ^ xs.length + beN xs) (y.toNat * 256 ^ ys.length + beN ys)
    rw [ih]
    simp only [u8_lt (show x.toNat < 256 by omega) (show y.toNat < 256 by omega), u8_lt (show y.toNat < 256 by omega) (show x.toNat < 256 by omega)]
    rw [← hl2] at by' ⊢
    generalize 256 ^ xs.length = P at *
    unfold cmpN
    rcases Nat.lt_trichotomy x.toNat y.toNat with h | h | h
    · have h3 : (x.toNat + 1) * P ≤ y.toNat * P := Nat.mul_le_mul_right _ h
      rw [Nat.succ_mul] at h3
      rw [if_pos h, if_pos (by omega)]
    · rw [h, if_neg (Nat.lt_irrefl _), if_neg (Nat.lt_irrefl _)]
      simp only [Nat.add_lt_add_iff_left]
    · have h3 : (y.toNat + 1) * P ≤ x.toNat * P := Nat.mul_le_mul_right _ h
      rw [Nat.succ_mul] at h3
      rw [if_neg (by omega), if_pos h, if_neg (by omega), if_pos (by omega)]

theorem be_eig {n : Nat} (h : n < 18446744073709551616) : beN (eigL n) = n := by
  rw [eigL_bt]
  simp only [beN, bt, Int.toNat_natCast, List.length_cons, List.length_nil]
  omega

/-- The entry on slices that lie in memory. -/
theorem run_cmp {w : World} {g1 g2 : Nat} {xs ys : List Int} (hx : ∀ j x, xs[j]? = some x → w.cell? ((⟨g1, 0, none⟩ : Addr).add j) = some (.int .u8 x)) (hy : ∀ j x, ys[j]? = some x → w.cell? ((⟨g2, 0, none⟩ : Addr).add j) = some (.int .u8 x)) :
    (Extern.BytealgCompare.compare #[.slice (some ⟨g1, 0, none⟩) xs.length xs.length, .slice (some ⟨g2, 0, none⟩) ys.length ys.length]).run Tryd.prog w = .ok (.int .i64 (Lib.compareBytes (Lib.bytesOf xs) (Lib.bytesOf ys))) w := by
  have h1 := Lib.run_loadBytesX (P := Tryd.prog) w xs ⟨g1, 0, none⟩ .empty hx
  have h2 := Lib.run_loadBytesX (P := Tryd.prog) w ys ⟨g2, 0, none⟩ .empty hy
  change Sem.run Tryd.prog (do pure (goInt (Extern.BytealgCompare.cmp (← Extern.Bytes.bytesOf (.slice (some ⟨g1, 0, none⟩) xs.length xs.length)) (← Extern.Bytes.bytesOf (.slice (some ⟨g2, 0, none⟩) ys.length ys.length))))) w = _
  simp only [Extern.Bytes.bytesOf, Sem.run_bind, Sem.run_pure, h1, h2, Result.andThen_ok]
  rw [Lib.cmp_eq]
  have e : ∀ zs : List Int, (⟨ByteArray.empty.data ++ (Lib.bytesOf zs).toArray⟩ : ByteArray).data.toList = Lib.bytesOf zs := fun zs => by
    show ((#[] : Array UInt8) ++ (Lib.bytesOf zs).toArray).toList = _
    simp
  rw [e, e]
  rfl

theorem key_add {w : World} {g : Nat} {a : Nat} (h : At 28 w g #[.int .u8 (bt (a) 0), .int .u8 (bt (a) 1), .int .u8 (bt (a) 2), .int .u8 (bt (a) 3), .int .u8 (bt (a) 4), .int .u8 (bt (a) 5), .int .u8 (bt (a) 6), .int .u8 (bt (a) 7)]) : ∀ j x, (eigL a)[j]? = some x → w.cell? ((⟨g, 0, none⟩ : Addr).add j) = some (.int .u8 x) := by
  intro j x hj
  have hj8 : j < 8 := by
    have := (List.getElem?_eq_some_iff.1 hj).1
    rwa [eigL_len] at this
  rw [eigL_bt] at hj
  rw [Addr.add_lit, Nat.zero_add, At.cell h j]
  match j, hj8 with
  | 0, _ | 1, _ | 2, _ | 3, _ | 4, _ | 5, _ | 6, _ | 7, _ => cases hj; rfl

set_option maxRecDepth 20000 in
theorem bcmp_any {w : World} {g1 g2 a b : Nat} (ha : a < 18446744073709551616) (hb : b < 18446744073709551616) (h1 : At 28 w g1 #[.int .u8 (bt (a) 0), .int .u8 (bt (a) 1), .int .u8 (bt (a) 2), .int .u8 (bt (a) 3), .int .u8 (bt (a) 4), .int .u8 (bt (a) 5), .int .u8 (bt (a) 6), .int .u8 (bt (a) 7)]) (h2 : At 28 w g2 #[.int .u8 (bt (b) 0), .int .u8 (bt (b) 1), .int .u8 (bt (b) 2), .int .u8 (bt (b) 3), .int .u8 (bt (b) 4), .int .u8 (bt (b) 5), .int .u8 (bt (b) 6), .int .u8 (bt (b) 7)]) :
    Calls Tryd.prog 71 #[.slice (some ⟨g1, 0, none⟩) 8 8, .slice (some ⟨g2, 0, none⟩) 8 8] w fun e w' => e = .returned (.int .i64 (cmpN a b)) ∧ w' = w := by
  have hX : (callFunc 78 #[.slice (some ⟨g1, 0, none⟩) 8 8, .slice (some ⟨g2, 0, none⟩) 8 8]).run Tryd.prog w = .ok (.value (.int .i64 (cmpN a b))) w := by
    rw [run_callFunc_extern Tryd.func78 (by kernel_rfl) (by kernel_rfl) (by kernel_rfl) (e := Extern.BytealgCompare.compare) (by kernel_rfl)]
    have h := run_cmp (key_add h1) (key_add h2)
    rw [eigL_len, eigL_len, cmp_be (by rw [eigL_len, eigL_len]) (eigL_by a) (eigL_by b), be_eig ha, be_eig hb] at h
    rw [h]
    rfl
  generalize cmpN a b = z at hX ⊢
  go_enter Tryd.func71, Tryd.ntmps71
  go_wp2_with (simp only [hX])
  go_ret
  exact ⟨rfl, rfl⟩

set_option maxRecDepth 20000 in
set_option maxHeartbeats 1000000 in
theorem compare_any {a b : Nat} (ha : a < 18446744073709551616) (hb : b < 18446744073709551616) (w : World) :
    Calls Tryd.prog 63 #[.agg #[.int .u8 (bt (a) 0), .int .u8 (bt (a) 1), .int .u8 (bt (a) 2), .int .u8 (bt (a) 3), .int .u8 (bt (a) 4), .int .u8 (bt (a) 5), .int .u8 (bt (a) 6), .int .u8 (bt (a) 7)], .agg #[.int .u8 (bt (b) 0), .int .u8 (bt (b) 1), .int .u8 (bt (b) 2), .int .u8 (bt (b) 3), .int .u8 (bt (b) 4), .int .u8 (bt (b) 5), .int .u8 (bt (b) 6), .int .u8 (bt (b) 7)]] w fun e w' => e = .returned (.int .i64 (cmpN a b)) ∧ Below w.heap.size w w' := by
  have h1 := below_alloc' w (.cells #[.int .u8 (bt (a) 0), .int .u8 (bt (a) 1), .int .u8 (bt (a) 2), .int .u8 (bt (a) 3), .int .u8 (bt (a) 4), .int .u8 (bt (a) 5), .int .u8 (bt (a) 6), .int .u8 (bt (a) 7)] 28)
  have h2 := below_alloc' (w.alloc (.cells #[.int .u8 (bt (a) 0), .int .u8 (bt (a) 1), .int .u8 (bt (a) 2), .int .u8 (bt (a) 3), .int .u8 (bt (a) 4), .int .u8 (bt (a) 5), .int .u8 (bt (a) 6), .int .u8 (bt (a) 7)] 28)) (.cells #[.int .u8 (bt (b) 0), .int .u8 (bt (b) 1), .int .u8 (bt (b) 2), .int .u8 (bt (b) 3), .int .u8 (bt (b) 4), .int .u8 (bt (b) 5), .int .u8 (bt (b) 6), .int .u8 (bt (b) 7)] 28)
  have hs : (w.alloc (.cells #[.int .u8 (bt (a) 0), .int .u8 (bt (a) 1), .int .u8 (bt (a) 2), .int .u8 (bt (a) 3), .int .u8 (bt (a) 4), .int .u8 (bt (a) 5), .int .u8 (bt (a) 6), .int .u8 (bt (a) 7)] 28)).heap.size = w.heap.size + 1 := by simp
  have hA := (At.new 28 w #[.int .u8 (bt (a) 0), .int .u8 (bt (a) 1), .int .u8 (bt (a) 2), .int .u8 (bt (a) 3), .int .u8 (bt (a) 4), .int .u8 (bt (a) 5), .int .u8 (bt (a) 6), .int .u8 (bt (a) 7)]).below h2
  have hB := At.new 28 (w.alloc (.cells #[.int .u8 (bt (a) 0), .int .u8 (bt (a) 1), .int .u8 (bt (a) 2), .int .u8 (bt (a) 3), .int .u8 (bt (a) 4), .int .u8 (bt (a) 5), .int .u8 (bt (a) 6), .int .u8 (bt (a) 7)] 28)) #[.int .u8 (bt (b) 0), .int .u8 (bt (b) 1), .int .u8 (bt (b) 2), .int .u8 (bt (b) 3), .int .u8 (bt (b) 4), .int .u8 (bt (b) 5), .int .u8 (bt (b) 6), .int .u8 (bt (b) 7)]
  rw [hs] at hB
  have hb2 := h1.trans (h2.mono h1.size)
  clear h1 h2 hs
  generalize hW : (w.alloc (.cells #[.int .u8 (bt (a) 0), .int .u8 (bt (a) 1), .int .u8 (bt (a) 2), .int .u8 (bt (a) 3), .int .u8 (bt (a) 4), .int .u8 (bt (a) 5), .int .u8 (bt (a) 6), .int .u8 (bt (a) 7)] 28)).alloc (.cells #[.int .u8 (bt (b) 0), .int .u8 (bt (b) 1), .int .u8 (bt (b) 2), .int .u8 (bt (b) 3), .int .u8 (bt (b) 4), .int .u8 (bt (b) 5), .int .u8 (bt (b) 6), .int .u8 (bt (b) 7)] 28) = W0 at *
  go_enter Tryd.func63, Tryd.ntmps63
  go_wp2_with fail
  have hS0 : Bl W0 W0.drew := (Below.refl _ _).drew
  refine wp_region_det [0, 1, 2, 3] (Bl W0) (Bl W0) (by kernel_rfl) hS0 ?_
  refine wpDet_take ?vW0 (Bl.stays W0) (fun _ h => h) (i := 0) rfl (by kernel_rfl) (by kernel_rfl) (by kernel_rfl) (by kernel_rfl) (fun _ _ _ h => h) (Gives.value (by rfl) ?yW0) ?rW0
  case yW0 => (intro w' hSw; (try dsimp only at hSw); go_simp; try with_reducible rfl)
  (try simp only [Act.put, List.getElem_toArray, List.getElem_cons_zero, List.getElem_cons_succ, List.setIfInBounds_toArray, List.set_cons_zero, List.set_cons_succ])
  refine wpDet_take ?vW1 (Bl.stays W0) (fun _ h => h) (i := 1) rfl (by kernel_rfl) (by kernel_rfl) (by kernel_rfl) (by kernel_rfl) (fun _ _ _ h => h) (Gives.value (by rfl) ?yW1) ?rW1
  case yW1 => (intro w' hSw; (try dsimp only at hSw); go_simp; try with_reducible rfl)
  (try simp only [Act.put, List.getElem_toArray, List.getElem_cons_zero, List.getElem_cons_succ, List.setIfInBounds_toArray, List.set_cons_zero, List.set_cons_succ])
  refine wpDet_take (.int .i64 (cmpN a b)) (Bl.stays W0) (fun _ h => h) (i := 2) rfl (by kernel_rfl) (by kernel_rfl) (by kernel_rfl) (by kernel_rfl) (fun _ _ _ h => h) (Gives.call 71 #[.slice (some ⟨w.heap.size, 0, none⟩) 8 8, .slice (some ⟨w.heap.size + 1, 0, none⟩) 8 8] (by rfl) (fun _ => by first | (go_simp; done) | (go_simp; rfl)) (fun W hW => ((bcmp_any ha hb (hA.below (Bl.out hW)) (hB.below (Bl.out hW))).mono fun e w' h => ⟨h.1, h.2 ▸ Below.refl _ _⟩))) ?_
  (try simp only [Act.put, List.getElem_toArray, List.getElem_cons_zero, List.getElem_cons_succ, List.setIfInBounds_toArray, List.set_cons_zero, List.set_cons_succ])
  refine wpDet_take ?vW3 (Bl.stays W0) (fun _ h => h) (i := 3) rfl (by kernel_rfl) (by kernel_rfl) (by kernel_rfl) (by kernel_rfl) (fun _ _ _ h => h) (Gives.value (by rfl) ?yW3) ?rW3
  case yW3 => (intro w' hSw; (try dsimp only at hSw); go_simp; try with_reducible rfl)
  (try simp only [Act.put, List.getElem_toArray, List.getElem_cons_zero, List.getElem_cons_succ, List.setIfInBounds_toArray, List.set_cons_zero, List.set_cons_succ])
  refine wpDet_done (by kernel_rfl) (fun W9 hV => ?_) _
  go_wp2_with fail
  go_ret
  exact ⟨rfl, hb2.trans ((Bl.out hV).mono hb2.size)⟩

end Go.Proofs.YtnbgdkdnlfomeaaDoor.M
