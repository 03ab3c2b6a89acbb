/-
  Own text: the document's reader, and its Number.
  Own text: the document's reader: Within, End.
  Own text: the document's reader: Bytes.
  Own text: the document's Open of a record.
  Own text: the document's All.
  Own text: the document's reel of a file's bytes.
-/
import Derived.Test.YtpjhadaiodnnaaaGreatXE
section
namespace Go.Proofs.YtpjhadaiodnnaaaGreat.M
open Go.ChangeShapes Go.WideShapes Go.ChangeAt Go.RowKit
set_option linter.unusedSimpArgs false

/-- The document's reader in block g: bytes, a place, the first error. -/
structure QR (w : World) (g : Nat) (p : Option Addr) (n c : Nat) (xs : List Int) (a er : Nat) : Prop where
  blk : At 112 w g #[.slice p n c, .int .i64 a, .int .i64 er]
  rd : Rd .u8 w p n c xs
  byt : By xs
  room : n ≤ 1099511627776
  le : a ≤ n
  far : ∀ x, p = some x → 0 < n → x.block ≠ g

theorem Rd.ex0 {k : IntKind} {w w' : World} {p : Option Addr} {n c g : Nat} {xs : List Int} (h : Rd k w p n c xs) (he : Ex g w w') (hf : ∀ x, p = some x → 0 < n → x.block ≠ g) : Rd k w' p n c xs := by
  refine ⟨h.len, h.cap, h.nil, fun hn => ?_⟩
  obtain ⟨b, o, hp, hc⟩ := h.cells hn
  refine ⟨b, o, hp, fun i hi => ?_⟩
  have h1 := hc i hi
  exact (World.cell?_of_block (he.block b (World.block_lt_of_cell? _ _ h1) (hf _ hp hn))).trans h1

theorem QR.below {w w' : World} {g : Nat} {p : Option Addr} {n c : Nat} {xs : List Int} {a er : Nat} (h : QR w g p n c xs a er) (hb : Below w.heap.size w w') : QR w' g p n c xs a er := ⟨h.blk.below hb, h.rd.below' hb, h.byt, h.room, h.le, h.far⟩

theorem QR.fail {w : World} {g : Nat} {p : Option Addr} {n c : Nat} {xs : List Int} {a er : Nat} (h : QR w g p n c xs a er) (e : Nat) : QR (w.setCell ⟨g, 2, none⟩ (.int .i64 e)) g p n c xs a e :=
  ⟨heap_setCell_same _ g 2 _ _ _ h.blk, h.rd.ex0 ((Ex.refl g w).setCell 2 _) h.far, h.byt, h.room, h.le, h.far⟩

theorem QR.goto {w : World} {g : Nat} {p : Option Addr} {n c : Nat} {xs : List Int} {a er : Nat} (h : QR w g p n c xs a er) (b : Nat) (hb : b ≤ n) : QR (w.setCell ⟨g, 1, none⟩ (.int .i64 b)) g p n c xs b er :=
  ⟨heap_setCell_same _ g 1 _ _ _ h.blk, h.rd.ex0 ((Ex.refl g w).setCell 1 _) h.far, h.byt, h.room, hb, h.far⟩

theorem QR.drewN {w : World} {g : Nat} {p : Option Addr} {n c : Nat} {xs : List Int} {a er : Nat} (h : QR w g p n c xs a er) (k : Nat) : QR (w.drewN k) g p n c xs a er := h.below (below_drewN (Below.refl _ _) k)

theorem QR.goto' {w : World} {g : Nat} {p : Option Addr} {n c : Nat} {xs : List Int} {a er : Nat} (h : QR w g p n c xs a er) (v : Int) (b : Nat) (hv : v = (b : Int)) (hb : b ≤ n) : QR (w.setCell ⟨g, 1, none⟩ (.int .i64 v)) g p n c xs b er := by
  rw [hv]
  exact h.goto b hb

theorem wrapN (x : Nat) (h : x < 18446744073709551616) : IntKind.u64.wrap (x : Int) = (x : Int) := by
  simp only [IntKind.wrap, IntKind.bits, IntKind.signed, Bool.false_and, Bool.false_eq_true, if_false]
  omega

theorem wrap_mac (acc l st : Nat) (z : Int) (hz : z = (l : Int)) (h : acc + l * st < 18446744073709551616) : IntKind.u64.wrap ((acc : Int) + IntKind.u64.wrap (z * (st : Int))) = ((acc + l * st : Nat) : Int) := by
  rw [hz, show ((l : Int) * (st : Int)) = ((l * st : Nat) : Int) from (Int.natCast_mul _ _).symm, wrapN _ (by omega), show ((acc : Int) + ((l * st : Nat) : Int)) = ((acc + l * st : Nat) : Int) from (Int.natCast_add _ _).symm, wrapN _ h]

/-- What a Number leaves. -/
def NumP (w : World) (g : Nat) (p : Option Addr) (n c : Nat) (xs : List Int) (a : Nat) (r : Nat × Nat × Nat) (e : Ending) (w' : World) : Prop :=
  ((r.2.2 = 0 ∧ e = .returned (.int .u64 r.1) ∧ QR w' g p n c xs (a + r.2.1) 0) ∨ (r.2.2 ≠ 0 ∧ e = .returned (.int .u64 0) ∧ ∃ er, 0 < er ∧ er < 100 ∧ QR w' g p n c xs a er)) ∧ Ex g w w'

theorem ret_u64 {a b : Int} (h : a = b) : Ending.returned (.int .u64 a) = .returned (.int .u64 b) := by rw [h]

theorem drop_getD2 {xs : List Int} {a k : Nat} (h : a + k < xs.length) : (xs.drop a).drop k = xs.getD (a + k) 0 :: (xs.drop a).drop (k + 1) := by
  rw [List.drop_drop, List.drop_drop, drop_getD h]
  rfl

set_option maxRecDepth 20000 in
set_option maxHeartbeats 2000000 in
theorem rNumber_any (w : World) (g : Nat) (p : Option Addr) (n c : Nat) (xs : List Int) (a : Nat) (h : QR w g p n c xs a 0) :
    Calls Tryz.prog 94 #[.pointer (some ⟨g, 0, none⟩)] w (NumP w g p n c xs a (numR (xs.drop a))) := by
  have hxl := h.rd.len
  have HH : Hid (QR w g p n c xs a 0) := h
  obtain ⟨c0, c1, c2⟩ := h.blk.three
  have hroom := h.room
  have hle := h.le
  obtain ⟨r, HR⟩ : ∃ r, Hid (r = numR (xs.drop a)) := ⟨_, rfl⟩
  rw [← HR.out]
  clear h
  go_enter Tryz.func94, Tryz.ntmps94
  go_wp2_with fail
  clear c0 c1 c2
  go_loopw [3, 4, 13] (fun v s i wr => ∃ k acc st : Nat, k ≤ 10 ∧ i = .int .i64 k ∧ v = .int .u64 acc ∧ s = .int .u64 st ∧ acc < 18446744073709551616 ∧ st < 18446744073709551616 ∧ Hid (k ≤ 9 → acc < 2 ^ (7 * k) ∧ st = 2 ^ (7 * k)) ∧ Hid (r = numG k acc ((xs.drop a).drop k)) ∧ Below w.heap.size w wr) (fun _ _ i _ => 11 - (intOf i).toNat)
  case atStart => exact ⟨0, 0, 1, Nat.zero_le _, rfl, rfl, rfl, by omega, by omega, (fun _ => ⟨by decide, by decide⟩ : (0 : Nat) ≤ 9 → 0 < 2 ^ (7 * 0) ∧ 1 = 2 ^ (7 * 0)), (by rw [HR.out]; rfl : r = numG 0 0 ((xs.drop a).drop 0)), Below.refl _ _⟩
  case round =>
    obtain ⟨k, acc, st, hk, rfl, rfl, rfl, hacc, hst, hlt, he, hb⟩ := hrel
    have hq := HH.out.below hb
    have HQ : Hid (QR wr g p n c xs a 0) := hq
    have HX : Hid (Ex g w wr) := Ex.of_below hb
    obtain ⟨c0, c1, c2⟩ := hq.blk.three
    have f1 := hq.blk.free 1
    have f2 := hq.blk.free 2
    by_cases hs : n ≤ a + k
    · have hsi : (n : Int) ≤ (a : Int) + (k : Int) := by omega
      have HB : Hid (r.2.2 ≠ 0) := by
        show _ ≠ _
        rw [he.out, List.drop_drop, List.drop_eq_nil_of_le (by omega)]
        exact (by decide : (2 : Nat) ≠ 0)
      clear hq hb hlt he
      go_wp2_with fail
      go_quiet (fail)
      go_wp2_with fail
      go_ret
      exact ⟨Or.inr ⟨HB.out, rfl, 2, by decide, by decide, by first | exact (HQ.out.drewN _).fail 2 | exact ((HQ.out.drewN _).drewN _).fail 2⟩, by first | exact (HX.out.drewN _).setCell 2 _ | exact ((HX.out.drewN _).drewN _).setCell 2 _⟩
    · have hk' : a + k < n := by omega
      have hsi : (a : Int) + (k : Int) < (n : Int) := by omega
      obtain ⟨b, o, rfl, hc⟩ := hq.rd.cells (by omega)
      have hcx := hc (a + k) hk'
      have hz := hq.byt (xs.getD (a + k) 0) (getD_mem (by omega))
      have HP : Hid (k = 10 → r.2.2 ≠ 0) := fun e => by rw [he.out, e]; exact numG_past _ _ _ ((hq.byt.drop _).drop _) (by decide)
      have he2 := he.out
      rw [drop_getD2 (by omega)] at he2
      generalize xs.getD (a + k) 0 = z at hcx hz he2
      obtain ⟨z, rfl⟩ := Int.eq_ofNat_of_zero_le hz.1
      have HE : Hid (r = numG k acc ((z : Int) :: (xs.drop a).drop (k + 1))) := he2
      have hz2 : z < 256 := by omega
      have HBB : Hid (Below w.heap.size w wr) := hb
      clear hc hq hb he he2 hz hs hxl
      by_cases h10 : k = 10
      · have HB : Hid (r.2.2 ≠ 0) := HP.out h10
        subst h10
        clear HE hlt HP
        go_wp2_with fail
        go_quiet (fail)
        go_wp2_with fail
        go_quiet (fail)
        go_wp2_with fail
        go_ret
        exact ⟨Or.inr ⟨HB.out, rfl, 5, by decide, by decide, by first | exact (HQ.out.drewN _).fail 5 | exact ((HQ.out.drewN _).drewN _).fail 5⟩, by first | exact (HX.out.drewN _).setCell 2 _ | exact ((HX.out.drewN _).drewN _).setCell 2 _⟩
      by_cases h9 : k = 9 ∧ 1 < z % 128
      · have HB : Hid (r.2.2 ≠ 0) := by
          show _ ≠ _
          rw [HE.out, numG, if_pos (by simpa using Or.inl h9)]
          exact (by decide : (5 : Nat) ≠ 0)
        obtain ⟨rfl, h91⟩ := h9
        clear HE hlt HP
        go_wp2_with fail
        go_quiet (fail)
        go_wp2_with fail
        go_quiet (fail)
        go_wp2_with fail
        go_ret
        exact ⟨Or.inr ⟨HB.out, rfl, 5, by decide, by decide, by first | exact (HQ.out.drewN _).fail 5 | exact ((HQ.out.drewN _).drewN _).fail 5⟩, by first | exact (HX.out.drewN _).setCell 2 _ | exact ((HX.out.drewN _).drewN _).setCell 2 _⟩
      by_cases hF : z = 0 ∧ 0 < k
      · have HB : Hid (r.2.2 ≠ 0) := by
          show _ ≠ _
          rw [HE.out, numG, if_neg (by simp; omega), if_pos (by simpa using hF)]
          exact (by decide : (10 : Nat) ≠ 0)
        obtain ⟨rfl, hk0⟩ := hF
        clear HE hlt HP
        go_wp2_with fail
        go_quiet (fail)
        go_wp2_with fail
        go_quiet (fail)
        go_wp2_with fail
        all_goals (
          go_ret
          exact ⟨Or.inr ⟨HB.out, rfl, 10, by decide, by decide, by first | exact (HQ.out.drewN _).fail 10 | exact ((HQ.out.drewN _).drewN _).fail 10⟩, by first | exact (HX.out.drewN _).setCell 2 _ | exact ((HX.out.drewN _).drewN _).setCell 2 _⟩)
      have hk9 : k ≤ 9 := by omega
      have hl : z % 128 < 128 := by omega
      have h91 : k = 9 → z % 128 ≤ 1 := by omega
      have hlt2 := hlt.out hk9
      have HS : Hid (z % 128 * st ≤ 9223372036854775808) := by show _ ≤ _; rw [hlt2.2]; exact shift_lt hk9 hl h91
      have HT : Hid (acc + z % 128 * st < 18446744073709551616) := by show _ < _; rw [hlt2.2]; exact sum_lt hk9 hl h91 hlt2.1
      have HN : Hid (acc + z % 128 * st < 2 ^ (7 * (k + 1))) := by show _ < _; rw [hlt2.2]; exact sum_lt_next hl hlt2.1
      by_cases h128 : z < 128
      · have HR2 : Hid (r = (acc + z % 128 * st, k + 1, 0)) := by
          show _ = _
          rw [HE.out, numG, if_neg (by simp; omega), if_neg (by simp; omega), if_pos (by simpa using h128), hlt2.2]
          simp
        have hd : (k = 9 ∧ 0 < z ∧ z % 128 ≤ 1) ∨ (k = 0 ∧ z = 0) ∨ (k < 9 ∧ 0 < z) := by omega
        clear HE hlt HP hlt2 hF h9
        have HV : Hid (IntKind.u64.wrap ((acc : Int) + IntKind.u64.wrap ((z : Int) % 128 * (st : Int))) = ((acc + z % 128 * st : Nat) : Int)) := wrap_mac _ _ _ _ (by omega) HT.out
        rcases hd with ⟨rfl, hz0, hz1⟩ | ⟨hk0e, hz0e⟩ | ⟨hk8, hz0⟩
        · have hzb : ((z : Int) == 0) = false := by simp; omega
          have h911 : (z : Int) % 128 ≤ 1 := by omega
          go_wp2_with fail
          go_quiet (fail)
          go_wp2_with fail
          go_quiet (fail)
          go_wp2_with fail
          go_ret
          exact ⟨Or.inl ⟨by rw [HR2.out], ret_u64 (by rw [HR2.out]; first | exact HV.out | simpa using HV.out), by rw [HR2.out]; first | exact QR.goto' (HQ.out.drewN _) _ _ (by dsimp only; omega) (by dsimp only; omega) | exact QR.goto' ((HQ.out.drewN _).drewN _) _ _ (by dsimp only; omega) (by dsimp only; omega)⟩, by first | exact (HX.out.drewN _).setCell 1 _ | exact ((HX.out.drewN _).drewN _).setCell 1 _⟩
        · have hzb : ((z : Int) == 0) = true := by simp [hz0e]
          have hk0 : (k : Int) ≤ 0 := by omega
          clear hk0e hz0e
          go_wp2_with fail
          go_quiet (fail)
          go_wp2_with fail
          go_quiet (fail)
          go_wp2_with fail
          go_ret
          exact ⟨Or.inl ⟨by rw [HR2.out], ret_u64 (by rw [HR2.out]; first | exact HV.out | simpa using HV.out), by rw [HR2.out]; first | exact QR.goto' (HQ.out.drewN _) _ _ (by dsimp only; omega) (by dsimp only; omega) | exact QR.goto' ((HQ.out.drewN _).drewN _) _ _ (by dsimp only; omega) (by dsimp only; omega)⟩, by first | exact (HX.out.drewN _).setCell 1 _ | exact ((HX.out.drewN _).drewN _).setCell 1 _⟩
        · have hzb : ((z : Int) == 0) = false := by simp; omega
          go_wp2_with fail
          go_quiet (fail)
          go_wp2_with fail
          go_quiet (fail)
          go_wp2_with fail
          go_ret
          exact ⟨Or.inl ⟨by rw [HR2.out], ret_u64 (by rw [HR2.out]; first | exact HV.out | simpa using HV.out), by rw [HR2.out]; first | exact QR.goto' (HQ.out.drewN _) _ _ (by dsimp only; omega) (by dsimp only; omega) | exact QR.goto' ((HQ.out.drewN _).drewN _) _ _ (by dsimp only; omega) (by dsimp only; omega)⟩, by first | exact (HX.out.drewN _).setCell 1 _ | exact ((HX.out.drewN _).drewN _).setCell 1 _⟩
      · have HR2 : Hid (r = numG (k + 1) (acc + z % 128 * st) ((xs.drop a).drop (k + 1))) := by
          show _ = _
          rw [HE.out, numG, if_neg (by simp; omega), if_neg (by simp; omega), if_neg (by simpa using h128), hlt2.2]
          simp
        have HV : Hid (IntKind.u64.wrap ((acc : Int) + IntKind.u64.wrap ((z : Int) % 128 * (st : Int))) = ((acc + z % 128 * st : Nat) : Int)) := wrap_mac _ _ _ _ (by omega) HT.out
        have HW : Hid (∃ s2 : Nat, s2 < 18446744073709551616 ∧ IntKind.u64.wrap ((st : Int) * 128) = (s2 : Int) ∧ (k + 1 ≤ 9 → s2 = 2 ^ (7 * (k + 1)))) := by
          by_cases hk8 : k < 9
          · have hp := pow_le56 hk8
            refine ⟨st * 128, by rw [hlt2.2]; omega, ?_, fun _ => by rw [hlt2.2, pow7_succ]; omega⟩
            exact wrapN (st * 128) (by rw [hlt2.2]; omega)
          · obtain rfl : k = 9 := by omega
            refine ⟨0, by decide, ?_, fun h => absurd h (by decide)⟩
            rw [hlt2.2]
            decide
        have HLT : Hid (acc + z % 128 * st < 18446744073709551616) := HT.out
        have hzb : ((z : Int) == 0) = false := by simp; omega
        have hz128 : ¬ (z : Int) < 128 := by omega
        clear HE hlt HP hlt2 hF h9 h128
        rcases (show k = 9 ∨ k < 9 by omega) with rfl | hk8
        · have h911 : (z : Int) % 128 ≤ 1 := by omega
          go_wp2_with fail
          go_quiet (fail)
          go_wp2_with fail
          go_quiet (fail)
          go_wp2_with fail
          go_roundw
          case rel =>
            obtain ⟨s2, e1, e2, e3⟩ := HW.out
            exact ⟨10, acc + z % 128 * st, s2, by omega, by go_num, congrArg _ HV.out, congrArg _ e2, HLT.out, e1, (fun h => absurd h (by decide) : (10 : Nat) ≤ 9 → _), HR2.out, below_drewN HBB.out _⟩
          case measure => simp [intOf]
        · skip
          go_wp2_with fail
          go_quiet (fail)
          go_wp2_with fail
          go_quiet (fail)
          go_wp2_with fail
          go_roundw
          case rel =>
            obtain ⟨s2, e1, e2, e3⟩ := HW.out
            exact ⟨k + 1, acc + z % 128 * st, s2, by omega, by go_num, congrArg _ HV.out, congrArg _ e2, HLT.out, e1, (fun h => ⟨HN.out, e3 h⟩ : k + 1 ≤ 9 → _), HR2.out, below_drewN HBB.out _⟩
          case measure => simp [intOf]; omega

end Go.Proofs.YtpjhadaiodnnaaaGreat.M
end

section
namespace Go.Proofs.YtpjhadaiodnnaaaGreat.M
open Go.ChangeShapes Go.WideShapes Go.ChangeAt Go.RowKit
set_option linter.unusedSimpArgs false

/-- The document's reader in block g that has this to read, and an error or none. -/
def QS1 (w : World) (g : Nat) (p : Option Addr) (n c : Nat) (xs : List Int) (s : List Int × Nat) : Prop := ∃ a er, QR w g p n c xs a er ∧ s.1 = xs.drop a ∧ (er = 0 ↔ s.2 = 0) ∧ er < 100

set_option maxRecDepth 20000 in
theorem rNumber_no (w : World) (g : Nat) (p : Option Addr) (n c : Nat) (xs : List Int) (a er : Nat) (h : QR w g p n c xs a er) (he : 0 < er) :
    Calls Tryz.prog 94 #[.pointer (some ⟨g, 0, none⟩)] w fun e w' => e = .returned (.int .u64 0) ∧ w' = w := by
  obtain ⟨c0, c1, c2⟩ := h.blk.three
  have hne : ((er : Int) != 0) = true := by simp; omega
  clear h
  go_enter Tryz.func94, Tryz.ntmps94
  go_wp2_with fail
  go_ret
  exact ⟨rfl, rfl⟩

set_option maxRecDepth 20000 in
set_option maxHeartbeats 2000000 in
theorem rWithin_any (w : World) (g : Nat) (p : Option Addr) (n c : Nat) (xs : List Int) (s : List Int × Nat) (h : QS1 w g p n c xs s) (lo : Nat) (_hlo : lo ≤ 1) :
    Calls Tryz.prog 65 #[.pointer (some ⟨g, 0, none⟩), .int .i64 lo, .int .i64 1099511627776] w fun e w' => e = .returned (.int .i64 (wL lo s).1) ∧ QS1 w' g p n c xs (wL lo s).2 ∧ Ex g w w' := by
  obtain ⟨a, er, hq, hs1, hs2, h100⟩ := h
  obtain ⟨s1, s2⟩ := s
  dsimp only at hs1 hs2
  subst hs1
  obtain ⟨c0, c1, c2⟩ := hq.blk.three
  have hroom := hq.room
  have hle := hq.le
  by_cases he : er = 0
  · subst he
    obtain rfl : s2 = 0 := hs2.1 rfl
    have hN := rNumber_any w g p n c xs a hq
    have hxl := hq.rd.len
    have HBy : Hid (By (xs.drop a)) := hq.byt.drop _
    obtain ⟨rr, HRR⟩ : ∃ z, Hid (z = wL lo (xs.drop a, 0)) := ⟨_, rfl⟩
    rw [← HRR.out]
    have hrr := HRR.out
    unfold wL at hrr
    rw [if_pos rfl] at hrr
    dsimp only at hrr
    clear hq hs2 HRR
    go_enter Tryz.func65, Tryz.ntmps65
    go_wp2_with fail
    refine hN.mono ?_
    rintro e w1 ⟨⟨h0, rfl, hq1⟩ | ⟨h0, rfl, er, he1, he2, hq1⟩, hx⟩
    · clear hN c0 c1 c2
      rw [if_pos h0] at hrr
      obtain ⟨v, hv64, hv, _⟩ := numR_form HBy.out h0
      rw [hv] at hq1 hrr ⊢
      dsimp only at hq1 hrr ⊢
      generalize (putL v).length = u at hq1 hrr
      have HQ : Hid (QR w1 g p n c xs (a + u) 0) := hq1
      have HX : Hid (Ex g w w1) := hx
      obtain ⟨c0, c1, c2⟩ := hq1.blk.three
      have f1 := hq1.blk.free 1
      have f2 := hq1.blk.free 2
      clear hv h0 hq1 hx
      by_cases hin : lo ≤ v ∧ v ≤ 1099511627776
      · rw [if_pos hin] at hrr
        have HRR : Hid (rr = ((v : Int), (xs.drop a).drop u, 0)) := hrr
        clear hrr
        obtain ⟨hi1, hi2⟩ := hin
        have hi1' : (lo : Int) ≤ (v : Int) := by omega
        go_wp2_with fail
        go_ret
        exact ⟨by rw [HRR.out]; rfl, by rw [HRR.out]; exact ⟨_, 0, HQ.out, by dsimp only; rw [List.drop_drop], Iff.rfl, by decide⟩, HX.out⟩
      · rw [if_neg hin] at hrr
        have HRR : Hid (rr = (0, xs.drop a, 5)) := hrr
        clear hrr
        have HF : Hid (QS1 ((w1.setCell ⟨g, 1, none⟩ (.int .i64 a)).setCell ⟨g, 2, none⟩ (.int .i64 5)) g p n c xs (xs.drop a, 5)) := ⟨a, 5, (HQ.out.goto a hle).fail 5, rfl, ⟨fun h => absurd h (by decide), fun h => absurd (show (5 : Nat) = 0 from h) (by decide)⟩, by decide⟩
        by_cases h62 : 4611686018427387904 < v
        · clear hin
          go_wp2_with fail
          go_ret
          exact ⟨by rw [HRR.out]; rfl, by rw [HRR.out]; exact HF.out, (HX.out.setCell 1 _).setCell 2 _⟩
        · have hv62 : v ≤ 4611686018427387904 := by omega
          by_cases hlv : v < lo
          · clear hin h62
            go_wp2_with fail
            go_ret
            exact ⟨by rw [HRR.out]; rfl, by rw [HRR.out]; exact HF.out, (HX.out.setCell 1 _).setCell 2 _⟩
          · have hbig : 1099511627776 < v := by omega
            clear hin h62
            go_wp2_with fail
            go_ret
            exact ⟨by rw [HRR.out]; rfl, by rw [HRR.out]; exact HF.out, (HX.out.setCell 1 _).setCell 2 _⟩
    · clear hN c0 c1 c2
      rw [if_neg h0] at hrr
      have HRR : Hid (rr = (0, xs.drop a, (numR (xs.drop a)).2.2)) := hrr
      clear hrr
      obtain ⟨c0, c1, c2⟩ := hq1.blk.three
      have hne : ((er : Int) != 0) = true := by simp; omega
      have heq : ((er : Int) == 0) = false := by simp; omega
      have HF : Hid (QS1 w1 g p n c xs (xs.drop a, (numR (xs.drop a)).2.2)) := ⟨a, er, hq1, rfl, ⟨fun e => by omega, fun e => absurd e h0⟩, he2⟩
      have HX : Hid (Ex g w w1) := hx
      clear hq1 hx h0 he1 he2
      go_wp2_with fail
      go_ret
      exact ⟨by rw [HRR.out]; rfl, by rw [HRR.out]; exact HF.out, HX.out⟩
  · have h2 : s2 ≠ 0 := fun e => he (hs2.2 e)
    unfold wL
    rw [if_neg h2]
    have hN := rNumber_no w g p n c xs a er hq (by omega)
    have hne : ((er : Int) != 0) = true := by simp; omega
    have heq : ((er : Int) == 0) = false := by simp; omega
    have HF : Hid (QS1 w g p n c xs (xs.drop a, s2)) := ⟨a, er, hq, rfl, hs2, h100⟩
    clear hq hs2 he h2
    go_enter Tryz.func65, Tryz.ntmps65
    go_wp2_with fail
    refine hN.mono ?_
    rintro e w1 ⟨rfl, hw⟩
    subst hw
    go_wp2_with fail
    go_ret
    exact ⟨rfl, HF.out, Ex.refl _ _⟩

set_option maxRecDepth 20000 in
set_option maxHeartbeats 2000000 in
theorem rEnd_any (w : World) (g : Nat) (p : Option Addr) (n c : Nat) (xs : List Int) (s : List Int × Nat) (h : QS1 w g p n c xs s) :
    Calls Tryz.prog 67 #[.pointer (some ⟨g, 0, none⟩)] w fun e w' => (∃ x : Int, e = .returned (.int .i64 x) ∧ (x = 0 ↔ endR s = 0)) ∧ Below w.heap.size w w' := by
  obtain ⟨a, er, hq, hs1, hs2, h100⟩ := h
  obtain ⟨s1, s2⟩ := s
  dsimp only at hs1 hs2
  subst hs1
  obtain ⟨c0, c1, c2⟩ := hq.blk.three
  have hroom := hq.room
  have hle := hq.le
  have hxl := hq.rd.len
  by_cases he : er = 0
  · subst he
    obtain rfl : s2 = 0 := hs2.1 rfl
    by_cases hlt : a < n
    · have HE : Hid (endR (xs.drop a, 0) = 3) := by
        show endR _ = _
        unfold endR
        rw [if_pos rfl, if_neg (by simp; omega)]
      clear hq hs2
      go_enter Tryz.func67, Tryz.ntmps67
      go_wp2_with fail
      go_quiet (fail)
      go_wp2_with fail
      go_ret
      exact ⟨⟨3, rfl, by rw [HE.out]⟩, below_drewN (Below.refl _ _) _⟩
    · have HE : Hid (endR (xs.drop a, 0) = 0) := by
        show endR _ = _
        unfold endR
        rw [if_pos rfl, if_pos (by simp; omega)]
      clear hq hs2
      go_enter Tryz.func67, Tryz.ntmps67
      go_wp2_with fail
      go_quiet (fail)
      go_wp2_with fail
      go_ret
      exact ⟨⟨0, rfl, by rw [HE.out]⟩, below_drewN (Below.refl _ _) _⟩
  · have h2 : s2 ≠ 0 := fun e => he (hs2.2 e)
    have HE : Hid (endR (xs.drop a, s2) ≠ 0) := by
      show endR _ ≠ _
      unfold endR
      rw [if_neg h2]
      show (s2 : Int) ≠ 0
      omega
    have hne : ((er : Int) != 0) = true := by simp; omega
    have heq : ((er : Int) == 0) = false := by simp; omega
    have he0 : (er : Int) ≠ 0 := by omega
    clear hq hs2 he h2
    go_enter Tryz.func67, Tryz.ntmps67
    go_wp2_with fail
    go_quiet (fail)
    go_wp2_with fail
    go_ret
    exact ⟨⟨er, rfl, ⟨fun e => absurd e he0, fun e => absurd e HE.out⟩⟩, below_drewN (Below.refl _ _) _⟩

end Go.Proofs.YtpjhadaiodnnaaaGreat.M
end

section
namespace Go.Proofs.YtpjhadaiodnnaaaGreat.M
open Go.ChangeShapes Go.WideShapes Go.ChangeAt Go.RowKit
set_option linter.unusedSimpArgs false

theorem wrapI (x : Nat) (h : x < 9223372036854775808) : IntKind.i64.wrap (x : Int) = (x : Int) := by
  simp only [IntKind.wrap, IntKind.bits, IntKind.signed, Bool.true_and]
  split
  · rename_i h1
    have h2 := of_decide_eq_true h1
    omega
  · omega

theorem wrapI2 (x y : Nat) (h : x + y < 9223372036854775808) : IntKind.i64.wrap ((x : Int) + (y : Int)) = ((x + y : Nat) : Int) := by
  rw [show ((x : Int) + (y : Int)) = ((x + y : Nat) : Int) from (Int.natCast_add _ _).symm]
  exact wrapI _ h

/-- What Bytes leaves. -/
def BytP (w : World) (g : Nat) (p : Option Addr) (n c : Nat) (xs : List Int) (rr : List Int × (List Int × Nat)) (e : Ending) (w' : World) : Prop :=
  (∃ p2 c2, e = .returned (.slice p2 rr.1.length c2) ∧ Ow .u8 5 w' w.heap.size p2 rr.1.length c2 rr.1) ∧ QS1 w' g p n c xs rr.2 ∧ Ex g w w'

set_option maxRecDepth 20000 in
set_option maxHeartbeats 4000000 in
theorem rBytes_any (w : World) (g : Nat) (p : Option Addr) (n c : Nat) (xs : List Int) (s : List Int × Nat) (h : QS1 w g p n c xs s) (most : Nat) (hmost : most ≤ 1099511627776) :
    Calls Tryz.prog 66 #[.pointer (some ⟨g, 0, none⟩), .int .i64 most] w (BytP w g p n c xs (bR most s)) := by
  obtain ⟨a, er, hq, hs1, hs2, h100⟩ := h
  obtain ⟨s1, s2⟩ := s
  dsimp only at hs1 hs2
  subst hs1
  obtain ⟨c0, c1, c2⟩ := hq.blk.three
  have hroom := hq.room
  have hle := hq.le
  have hgw := hq.blk.lt
  by_cases he : er = 0
  · subst he
    obtain rfl : s2 = 0 := hs2.1 rfl
    have hN := rNumber_any w g p n c xs a hq
    have hxl := hq.rd.len
    have HBy : Hid (By (xs.drop a)) := hq.byt.drop _
    obtain ⟨rr, HRR⟩ : ∃ z, Hid (z = bR most (xs.drop a, 0)) := ⟨_, rfl⟩
    rw [← HRR.out]
    clear hq hs2
    go_enter Tryz.func66, Tryz.ntmps66
    go_wp2_with fail
    refine hN.mono ?_
    rintro e w1 ⟨⟨h0, rfl, hq1⟩ | ⟨h0, rfl, er, he1, he2, hq1⟩, hx⟩
    · clear hN c0 c1 c2
      have hrr := HRR.out
      unfold bR at hrr
      rw [if_pos rfl] at hrr
      dsimp only at hrr
      rw [List.length_drop] at hrr
      clear HRR
      have hrm := num_room HBy.out h0
      rw [if_pos h0] at hrr
      obtain ⟨v, hv64, hv, _⟩ := numR_form HBy.out h0
      rw [hv] at hq1 hrr hrm ⊢
      dsimp only at hq1 hrr hrm ⊢
      rw [List.length_drop] at hrm
      generalize (putL v).length = u at hq1 hrr hrm
      have hxx : xs.length - a - u = n - (a + u) := by omega
      rw [hxx] at hrr
      rw [List.drop_drop, List.drop_drop, ← Nat.add_assoc] at hrr
      have htn : a + u ≤ n := hq1.le
      have hn0 : 0 < n := by omega
      generalize a + u = t at hq1 hrr htn
      have HQ : Hid (QR w1 g p n c xs t 0) := hq1
      have HX : Hid (Ex g w w1) := hx
      have HF : ∀ e : Nat, e ≠ 0 → e < 100 → ∀ W, W = ((w1.setCell ⟨g, 1, none⟩ (.int .i64 a)).setCell ⟨g, 2, none⟩ (.int .i64 e)) → QS1 W g p n c xs (xs.drop a, e) := fun e h1 h2 W hW => by
        rw [hW]
        exact ⟨a, e, (HQ.out.goto a hle).fail e, rfl, ⟨fun h => absurd h h1, fun h => absurd (show e = 0 from h) h1⟩, h2⟩
      have HFF : Hid (∀ e : Nat, e ≠ 0 → e < 100 → ∀ W, W = ((w1.setCell ⟨g, 1, none⟩ (.int .i64 a)).setCell ⟨g, 2, none⟩ (.int .i64 e)) → QS1 W g p n c xs (xs.drop a, e)) := HF
      obtain ⟨c0, c1, c2⟩ := hq1.blk.three
      have f1 := hq1.blk.free 1
      have f2 := hq1.blk.free 2
      clear hv h0 hx HF hrm hxx
      by_cases hlong : most < v
      · rw [if_pos hlong] at hrr
        have HRR : Hid (rr = ([], xs.drop a, 4)) := hrr
        clear hrr hq1
        go_wp2_with fail
        go_ret
        exact ⟨⟨none, 0, by rw [HRR.out]; rfl, by rw [HRR.out]; exact Ow.empty _ _ _ _ _⟩, by rw [HRR.out]; exact HFF.out 4 (by decide) (by decide) _ rfl, (HX.out.setCell 1 _).setCell 2 _⟩
      · rw [if_neg hlong] at hrr
        have hv40 : v ≤ 1099511627776 := by omega
        have hvm : (v : Int) ≤ (most : Int) := by omega
        by_cases hsh : n - t < v
        · rw [if_pos hsh] at hrr
          have hsi : (n : Int) - (t : Int) < (v : Int) := by omega
          have htn' : (t : Int) ≤ (n : Int) := by omega
          have HRR : Hid (rr = ([], xs.drop a, 2)) := hrr
          clear hrr hq1 hlong
          go_wp2_with fail
          go_quiet (fail)
          go_wp2_with fail
          go_ret
          exact ⟨⟨none, 0, by rw [HRR.out]; rfl, by rw [HRR.out]; exact Ow.empty _ _ _ _ _⟩, by rw [HRR.out]; exact ⟨a, 2, (((HQ.out.drewN _).goto a hle).fail 2), rfl, ⟨fun h => absurd h (by decide), fun h => absurd (show (2 : Nat) = 0 from h) (by decide)⟩, by decide⟩, ((HX.out.drewN _).setCell 1 _).setCell 2 _⟩
        · rw [if_neg hsh] at hrr
          have hsi : (v : Int) ≤ (n : Int) - (t : Int) := by omega
          have hsi2 : (t : Int) + (v : Int) ≤ (n : Int) := by omega
          have htn' : (t : Int) ≤ (n : Int) := by omega
          have hcap := hq1.rd.cap
          have hsi3 : (t : Int) + (v : Int) ≤ (c : Int) := by omega
          have htv : t + v ≤ n := by omega
          obtain ⟨b, o, rfl, _⟩ := hq1.rd.cells hn0
          have HRR : Hid (rr = ((xs.drop t).take v, xs.drop (t + v), 0)) := hrr
          clear hrr hq1 hlong hsh
          go_wp2_with fail
          go_quiet (fail)
          go_wp2_with fail
          generalize hwz : w1.drewN _ = wz
          have HQz : Hid (QR wz g (some ⟨b, o, none⟩) n c xs t 0) := by rw [← hwz]; exact HQ.out.drewN _
          have HXz : Hid (Ex g w wz) := by rw [← hwz]; exact HX.out.drewN _
          clear c0 c1 c2 f1 f2 hwz
          have hSz : Bl wz wz.drew := (Below.refl _ _).drew
          have hSzw : ∀ W, Bl wz W → (W.cell? ⟨g, 0, none⟩ = some (.slice (some ⟨b, o, none⟩) n c) ∧ W.cell? ⟨g, 1, none⟩ = some (.int .i64 t)) := fun W hW => ⟨(HQz.out.below (Bl.out' hW)).blk.three.1, (HQz.out.below (Bl.out' hW)).blk.three.2.1⟩
          refine wp_region_dyn [1, 2, 3, 4, 5, 6, 7, 8, 9, 10, 11, 12, 13, 14, 15, 16] (fun W => W.cell? ⟨g, 0, none⟩ = some (.slice (some ⟨b, o, none⟩) n c) ∧ W.cell? ⟨g, 1, none⟩ = some (.int .i64 t)) (Bl wz) (by kernel_rfl) hSz ?_
          refine wpDyn_take ?vN1 (Bl.stays wz) hSzw (i := 1) rfl (by kernel_rfl) (by kernel_rfl) (by kernel_rfl) (by kernel_rfl) (by kernel_rfl) (fun _ _ _ h => h) (Gives.value (by rfl) ?yN1) ?rN1
          case yN1 => (intro w' hSw; (try dsimp only at hSw); go_simp; try with_reducible rfl)
          (try simp only [Act.put, List.getElem_toArray, List.getElem_cons_zero, List.getElem_cons_succ, List.setIfInBounds_toArray, List.set_cons_zero, List.set_cons_succ])
          refine wpDyn_take ?vN2 (Bl.stays wz) hSzw (i := 2) rfl (by kernel_rfl) (by kernel_rfl) (by kernel_rfl) (by kernel_rfl) (by kernel_rfl) (fun _ _ _ h => h) (Gives.value (by rfl) ?yN2) ?rN2
          case yN2 => (intro w' hSw; (try dsimp only at hSw); go_simp; try with_reducible rfl)
          (try simp only [Act.put, List.getElem_toArray, List.getElem_cons_zero, List.getElem_cons_succ, List.setIfInBounds_toArray, List.set_cons_zero, List.set_cons_succ])
          refine wpDyn_take ?vN3 (Bl.stays wz) hSzw (i := 3) rfl (by kernel_rfl) (by kernel_rfl) (by kernel_rfl) (by kernel_rfl) (by kernel_rfl) (fun _ _ _ h => h) (Gives.value (by rfl) ?yN3) ?rN3
          case yN3 => (intro w' hSw; (try dsimp only at hSw); go_simp; try with_reducible rfl)
          (try simp only [Act.put, List.getElem_toArray, List.getElem_cons_zero, List.getElem_cons_succ, List.setIfInBounds_toArray, List.set_cons_zero, List.set_cons_succ])
          refine wpDyn_take ?vN4 (Bl.stays wz) hSzw (i := 4) rfl (by kernel_rfl) (by kernel_rfl) (by kernel_rfl) (by kernel_rfl) (by kernel_rfl) (fun _ _ _ h => h) (Gives.value (by rfl) ?yN4) ?rN4
          case yN4 => (intro w' hSw; have hz0 := hSw.1; (try dsimp only at hSw); go_simp; try with_reducible rfl)
          (try simp only [Act.put, List.getElem_toArray, List.getElem_cons_zero, List.getElem_cons_succ, List.setIfInBounds_toArray, List.set_cons_zero, List.set_cons_succ])
          refine wpDyn_take ?vN5 (Bl.stays wz) hSzw (i := 5) rfl (by kernel_rfl) (by kernel_rfl) (by kernel_rfl) (by kernel_rfl) (by kernel_rfl) (fun _ _ _ h => h) (Gives.value (by rfl) ?yN5) ?rN5
          case yN5 => (intro w' hSw; (try dsimp only at hSw); go_simp; try with_reducible rfl)
          (try simp only [Act.put, List.getElem_toArray, List.getElem_cons_zero, List.getElem_cons_succ, List.setIfInBounds_toArray, List.set_cons_zero, List.set_cons_succ])
          refine wpDyn_take ?vN6 (Bl.stays wz) hSzw (i := 6) rfl (by kernel_rfl) (by kernel_rfl) (by kernel_rfl) (by kernel_rfl) (by kernel_rfl) (fun _ _ _ h => h) (Gives.value (by rfl) ?yN6) ?rN6
          case yN6 => (intro w' hSw; (try dsimp only at hSw); go_simp; try with_reducible rfl)
          (try simp only [Act.put, List.getElem_toArray, List.getElem_cons_zero, List.getElem_cons_succ, List.setIfInBounds_toArray, List.set_cons_zero, List.set_cons_succ])
          refine wpDyn_take ?vN7 (Bl.stays wz) hSzw (i := 7) rfl (by kernel_rfl) (by kernel_rfl) (by kernel_rfl) (by kernel_rfl) (by kernel_rfl) (fun _ _ _ h => h) (Gives.value (by rfl) ?yN7) ?rN7
          case yN7 => (intro w' hSw; (try dsimp only at hSw); go_simp; try with_reducible rfl)
          (try simp only [Act.put, List.getElem_toArray, List.getElem_cons_zero, List.getElem_cons_succ, List.setIfInBounds_toArray, List.set_cons_zero, List.set_cons_succ])
          refine wpDyn_take ?vN8 (Bl.stays wz) hSzw (i := 8) rfl (by kernel_rfl) (by kernel_rfl) (by kernel_rfl) (by kernel_rfl) (by kernel_rfl) (fun _ _ _ h => h) (Gives.value (by rfl) ?yN8) ?rN8
          case yN8 => (intro w' hSw; have hz0 := hSw.2; (try dsimp only at hSw); go_simp; try with_reducible rfl)
          (try simp only [Act.put, List.getElem_toArray, List.getElem_cons_zero, List.getElem_cons_succ, List.setIfInBounds_toArray, List.set_cons_zero, List.set_cons_succ])
          refine wpDyn_take ?vN9 (Bl.stays wz) hSzw (i := 9) rfl (by kernel_rfl) (by kernel_rfl) (by kernel_rfl) (by kernel_rfl) (by kernel_rfl) (fun _ _ _ h => h) (Gives.value (by rfl) ?yN9) ?rN9
          case yN9 => (intro w' hSw; (try dsimp only at hSw); go_simp; try with_reducible rfl)
          (try simp only [Act.put, List.getElem_toArray, List.getElem_cons_zero, List.getElem_cons_succ, List.setIfInBounds_toArray, List.set_cons_zero, List.set_cons_succ])
          refine wpDyn_take ?vN10 (Bl.stays wz) hSzw (i := 10) rfl (by kernel_rfl) (by kernel_rfl) (by kernel_rfl) (by kernel_rfl) (by kernel_rfl) (fun _ _ _ h => h) (Gives.value (by rfl) ?yN10) ?rN10
          case yN10 => (intro w' hSw; (try dsimp only at hSw); go_simp; try with_reducible rfl)
          (try simp only [Act.put, List.getElem_toArray, List.getElem_cons_zero, List.getElem_cons_succ, List.setIfInBounds_toArray, List.set_cons_zero, List.set_cons_succ])
          refine wpDyn_take ?vN11 (Bl.stays wz) hSzw (i := 11) rfl (by kernel_rfl) (by kernel_rfl) (by kernel_rfl) (by kernel_rfl) (by kernel_rfl) (fun _ _ _ h => h) (Gives.value (by rfl) ?yN11) ?rN11
          case yN11 => (intro w' hSw; (try dsimp only at hSw); go_simp; try with_reducible rfl)
          (try simp only [Act.put, List.getElem_toArray, List.getElem_cons_zero, List.getElem_cons_succ, List.setIfInBounds_toArray, List.set_cons_zero, List.set_cons_succ])
          refine wpDyn_take ?vN12 (Bl.stays wz) hSzw (i := 12) rfl (by kernel_rfl) (by kernel_rfl) (by kernel_rfl) (by kernel_rfl) (by kernel_rfl) (fun _ _ _ h => h) (Gives.value (by rfl) ?yN12) ?rN12
          case yN12 => (intro w' hSw; have hz0 := hSw.2; (try dsimp only at hSw); go_simp; try with_reducible rfl)
          (try simp only [Act.put, List.getElem_toArray, List.getElem_cons_zero, List.getElem_cons_succ, List.setIfInBounds_toArray, List.set_cons_zero, List.set_cons_succ])
          refine wpDyn_take ?vN13 (Bl.stays wz) hSzw (i := 13) rfl (by kernel_rfl) (by kernel_rfl) (by kernel_rfl) (by kernel_rfl) (by kernel_rfl) (fun _ _ _ h => h) (Gives.value (by rfl) ?yN13) ?rN13
          case yN13 => (intro w' hSw; (try dsimp only at hSw); go_simp; try with_reducible rfl)
          (try simp only [Act.put, List.getElem_toArray, List.getElem_cons_zero, List.getElem_cons_succ, List.setIfInBounds_toArray, List.set_cons_zero, List.set_cons_succ])
          refine wpDyn_take (.int .i64 (v : Int)) (Bl.stays wz) hSzw (i := 14) rfl (by kernel_rfl) (by kernel_rfl) (by kernel_rfl) (by kernel_rfl) (by kernel_rfl) (fun _ _ _ h => h) (Gives.value (by rfl) ?yN14) ?rN14
          case yN14 => (intro w' hSw; clear hSw; go_simp; try rw [wrapI v (by omega)])
          (try simp only [Act.put, List.getElem_toArray, List.getElem_cons_zero, List.getElem_cons_succ, List.setIfInBounds_toArray, List.set_cons_zero, List.set_cons_succ])
          have h0tv : (0 : Int) ≤ (t : Int) + (v : Int) := by omega
          refine wpDyn_take (.int .i64 ((t : Int) + (v : Int))) (Bl.stays wz) hSzw (i := 15) rfl (by kernel_rfl) (by kernel_rfl) (by kernel_rfl) (by kernel_rfl) (by kernel_rfl) (fun _ _ _ h => h) (Gives.value (by rfl) ?yN15) ?rN15
          case yN15 => (intro w' hSw; clear hSw; go_simp; first | done | (rw [wrapI2 t v (by omega)]; exact Int.natCast_add _ _))
          (try simp only [Act.put, List.getElem_toArray, List.getElem_cons_zero, List.getElem_cons_succ, List.setIfInBounds_toArray, List.set_cons_zero, List.set_cons_succ])
          obtain ⟨pS, HpS⟩ : ∃ z, Hid (z = if c = t then some (⟨b, o, none⟩ : Addr) else some ⟨b, o + t, none⟩) := ⟨_, rfl⟩
          refine wpDyn_take (.slice pS v (c - t)) (Bl.stays wz) hSzw (i := 16) rfl (by kernel_rfl) (by kernel_rfl) (by kernel_rfl) (by kernel_rfl) (by kernel_rfl) (fun _ _ _ h => h) (Gives.value (by rfl) ?yN16) ?rN16
          case yN16 => (intro w' hSw; clear hSw; go_simp; rw [if_pos (by omega), HpS.out, show ((t : Int) + (v : Int)).toNat - t = v by omega])
          (try simp only [Act.put, List.getElem_toArray, List.getElem_cons_zero, List.getElem_cons_succ, List.setIfInBounds_toArray, List.set_cons_zero, List.set_cons_succ])
          refine wpDyn_ready (rs := [0]) (by kernel_rfl) (by simp) (AllDyn.cons rfl (fun V hV K hK => ?_) AllDyn.nil)
          rw [if_pos (by rfl)]
          refine wp_value (.slice (some ⟨V.heap.size, 0, none⟩) 0 0) (V.alloc (.cells #[] 5)) (by first | (go_simp; done) | (go_simp; rfl)) ?_
          refine hK.out (Bl wz) _ _ (Bl.stays wz) (fun _ => hSzw) (Bl.stays wz _ _ hV (below_alloc _ _)) ?_
          clear hK K hV
          generalize V.heap.size = pE
          (try simp only [Act.put, List.getElem_toArray, List.getElem_cons_zero, List.getElem_cons_succ, List.setIfInBounds_toArray, List.set_cons_zero, List.set_cons_succ])
          have HRd : Hid (∀ V, Bl wz V → Rd .u8 V pS v (c - t) ((xs.drop t).take v)) := by
            intro V hV
            have h1 := (HQz.out.below (Bl.out' hV)).rd
            rw [HpS.out]
            by_cases hct : c = t
            · rw [if_pos hct]
              obtain rfl : v = 0 := by omega
              rw [List.take_zero]
              exact Rd.empty _ _ _ _ (fun _ => by omega)
            · rw [if_neg hct]
              exact h1.sub t v (c - t) htv (by omega)
          refine wpDyn_ready (rs := [17]) (by kernel_rfl) (by simp) (AllDyn.cons rfl (fun V hV K hK => ?_) AllDyn.nil)
          rw [if_pos (by rfl)]
          obtain ⟨i0, hi, hz0, hz1, hz2⟩ := info_parts info5
          have hVs := (Bl.out' hV).size
          have hws := HXz.out.size
          obtain ⟨p3, c3, V3, hrun, hO3, hb3⟩ := run_app (w := V) .u8 40 40 5 i0 (.int .u8 0) 1 Tryz.underlying40 hi hz0 hz1 hz2 rfl (B := V.heap.size) (Ow.empty .u8 5 V V.heap.size (some ⟨pE, 0, none⟩)) (HRd.out V hV) (by omega) (by unfold maxLen; omega) (Nat.le_refl _)
          rw [Nat.zero_add, List.nil_append] at hO3
          rw [Nat.zero_add] at hrun
          refine wp_app _ _ 40 rfl (.slice (some ⟨pE, 0, none⟩) 0 0) (.slice pS v (c - t)) rfl rfl (.slice p3 v c3) V3 hrun ?_
          refine hK.out (fun W => Bl wz W ∧ Ow .u8 5 W w.heap.size p3 v c3 ((xs.drop t).take v)) _ _ (fun _ _ h hb => ⟨Bl.stays wz _ _ h.1 hb, h.2.below hb⟩) (no_leanT (by kernel_rfl)) ⟨Bl.stays wz _ _ hV hb3, hO3.lower (by omega)⟩ ?_
          clear hK K hV hrun hO3 hb3 hi hz0 hz1 hz2 hVs hws
          (try simp only [Act.put, List.getElem_toArray, List.getElem_cons_zero, List.getElem_cons_succ, List.setIfInBounds_toArray, List.set_cons_zero, List.set_cons_succ])
          refine wpDyn_ready (rs := [18]) (by kernel_rfl) (by simp) (AllDyn.cons rfl (fun V hV K hK => ?_) AllDyn.nil)
          rw [if_pos (by rfl)]
          refine wp_value (.slice p3 v c3) V (by first | (go_simp; done) | (go_simp; rfl)) ?_
          refine hK.out (fun W => Bl wz W ∧ Ow .u8 5 W w.heap.size p3 v c3 ((xs.drop t).take v)) _ _ (fun _ _ h hb => ⟨Bl.stays wz _ _ h.1 hb, h.2.below hb⟩) (no_leanT (by kernel_rfl)) hV ?_
          clear hK K hV
          (try simp only [Act.put, List.getElem_toArray, List.getElem_cons_zero, List.getElem_cons_succ, List.setIfInBounds_toArray, List.set_cons_zero, List.set_cons_succ])
          refine wpDyn_done (by kernel_rfl) (fun W2 hW2 => ?_) _
          clear hSzw hSz
          have hq2 := HQz.out.below (Bl.out' hW2.1)
          have HQ2 : Hid (QR W2 g (some ⟨b, o, none⟩) n c xs t 0) := hq2
          have HX2 : Hid (Ex g w W2) := HXz.out.trans (Ex.of_below (Bl.out' hW2.1))
          have HO2 : Hid (Ow .u8 5 W2 w.heap.size p3 v c3 ((xs.drop t).take v)) := hW2.2
          obtain ⟨c0, c1, c2⟩ := hq2.blk.three
          have f1 := hq2.blk.free 1
          have HLen : Hid (rr.1.length = v) := by show _ = _; rw [HRR.out, List.length_take, List.length_drop]; omega
          have HG : Hid (g < w.heap.size) := hgw
          clear hq2 hW2
          go_wp2_with fail
          go_ret
          exact ⟨⟨p3, c3, by rw [HLen.out]; rfl, by rw [HLen.out, HRR.out]; exact HO2.out.kept (grown_setCell _ _ _ _) HG.out⟩, by rw [HRR.out]; exact ⟨t + v, 0, HQ2.out.goto' _ (t + v) (by omega) htv, rfl, Iff.rfl, by decide⟩, HX2.out.setCell 1 _⟩
    · clear hN c0 c1 c2
      have hrr := HRR.out
      unfold bR at hrr
      rw [if_pos rfl] at hrr
      dsimp only at hrr
      rw [List.length_drop] at hrr
      clear HRR
      rw [if_neg h0] at hrr
      have HRR : Hid (rr = ([], xs.drop a, (numR (xs.drop a)).2.2)) := hrr
      clear hrr
      obtain ⟨c0, c1, c2⟩ := hq1.blk.three
      have hne : ((er : Int) != 0) = true := by simp; omega
      have heq : ((er : Int) == 0) = false := by simp; omega
      have HF : Hid (QS1 w1 g p n c xs (xs.drop a, (numR (xs.drop a)).2.2)) := ⟨a, er, hq1, rfl, ⟨fun e => by omega, fun e => absurd e h0⟩, he2⟩
      have HX : Hid (Ex g w w1) := hx
      clear hq1 hx h0 he1 he2
      go_wp2_with fail
      go_ret
      exact ⟨⟨none, 0, by rw [HRR.out]; rfl, by rw [HRR.out]; exact Ow.empty _ _ _ _ _⟩, by rw [HRR.out]; exact HF.out, HX.out⟩
  · have h2 : s2 ≠ 0 := fun e => he (hs2.2 e)
    have HRR : Hid (bR most (xs.drop a, s2) = ([], xs.drop a, s2)) := by
      show bR _ _ = _
      unfold bR
      rw [if_neg h2]
    rw [HRR.out]
    have hN := rNumber_no w g p n c xs a er hq (by omega)
    have hne : ((er : Int) != 0) = true := by simp; omega
    have heq : ((er : Int) == 0) = false := by simp; omega
    have HF : Hid (QS1 w g p n c xs (xs.drop a, s2)) := ⟨a, er, hq, rfl, hs2, h100⟩
    clear hq hs2 he h2
    go_enter Tryz.func66, Tryz.ntmps66
    go_wp2_with fail
    refine hN.mono ?_
    rintro e w1 ⟨rfl, hw⟩
    subst hw
    go_wp2_with fail
    go_ret
    exact ⟨⟨none, 0, rfl, Ow.empty _ _ _ _ _⟩, HF.out, Ex.refl _ _⟩

end Go.Proofs.YtpjhadaiodnnaaaGreat.M
end

section
namespace Go.Proofs.YtpjhadaiodnnaaaGreat.M
open Go.ChangeShapes Go.WideShapes Go.ChangeAt Go.RowKit
set_option linter.unusedSimpArgs false

theorem str_inj : ∀ {xs ys : List Int}, By xs → By ys → xs.map (fun n => UInt8.ofNat n.toNat) = ys.map (fun n => UInt8.ofNat n.toNat) → xs = ys
  | [], [], _, _, _ => rfl
  | [], _ :: _, _, _, h => by cases h
  | _ :: _, [], _, _, h => by cases h
  | x :: xs, y :: ys, hx, hy, h => by
    rw [List.map_cons, List.map_cons] at h
    injection h with h1 h2
    have e := congrArg UInt8.toNat h1
    have h3 := hx x (List.mem_cons_self ..)
    have h4 := hy y (List.mem_cons_self ..)
    simp at e
    have e2 : x = y := by omega
    rw [e2, str_inj (fun z hz => hx z (List.mem_cons_of_mem _ hz)) (fun z hz => hy z (List.mem_cons_of_mem _ hz)) h2]

theorem strOfNums_inj {xs ys : List Int} (hx : By xs) (hy : By ys) (h : strOfNums xs = strOfNums ys) : xs = ys := by
  unfold strOfNums at h
  injection h with h1
  exact str_inj hx hy (by simpa using congrArg Array.toList h1)

/-- Which of its errors Bytes finds is an error of Open. -/
theorem openR_bR {xs : List Int} (h : (bR 8192 (xs, 0)).2.2 ≠ 0) : (openR xs).2.2 ≠ 0 ∧ (openR xs).1 = [] ∧ (openR xs).2.1 = 0 := by
  unfold bR at h
  rw [if_pos rfl] at h
  unfold openR
  by_cases h1 : (numR xs).2.2 = 0
  · rw [if_pos h1] at h
    rw [if_neg (by simp [h1])]
    by_cases h2 : 8192 < (numR xs).1
    · rw [if_pos h2]
      exact ⟨by decide, rfl, rfl⟩
    · rw [if_neg h2] at h ⊢
      by_cases h3 : xs.length - (numR xs).2.1 < (numR xs).1
      · rw [if_pos h3]
        exact ⟨by decide, rfl, rfl⟩
      · rw [if_neg h3] at h
        exact absurd rfl h
  · rw [if_pos h1]
    exact ⟨h1, rfl, rfl⟩

/-- Where Bytes finds none. -/
theorem bR_good {xs : List Int} (hb : By xs) (h : (bR 8192 (xs, 0)).2.2 = 0) : ∃ t, t ≤ xs.length ∧ (bR 8192 (xs, 0)).2.1 = xs.drop t ∧ (bR 8192 (xs, 0)).1.length ≤ 8192 ∧ By (bR 8192 (xs, 0)).1 ∧
    (xs.length - t < 4 → (openR xs).2.2 ≠ 0 ∧ (openR xs).1 = [] ∧ (openR xs).2.1 = 0) ∧
    (4 ≤ xs.length - t → (sealL (bR 8192 (xs, 0)).1 = xs.take (t + 4) → openR xs = ((bR 8192 (xs, 0)).1, t + 4, 0)) ∧ (sealL (bR 8192 (xs, 0)).1 ≠ xs.take (t + 4) → (openR xs).2.2 ≠ 0 ∧ (openR xs).1 = [] ∧ (openR xs).2.1 = 0)) := by
  have h' := h
  unfold bR at h'
  rw [if_pos rfl] at h'
  by_cases h1 : (numR xs).2.2 = 0
  · rw [if_pos h1] at h'
    by_cases h2 : 8192 < (numR xs).1
    · rw [if_pos h2] at h'
      exact absurd (show (4 : Nat) = 0 from h') (by decide)
    · rw [if_neg h2] at h'
      by_cases h3 : xs.length - (numR xs).2.1 < (numR xs).1
      · rw [if_pos h3] at h'
        exact absurd (show (2 : Nat) = 0 from h') (by decide)
      · have eb : bR 8192 (xs, 0) = ((xs.drop (numR xs).2.1).take (numR xs).1, (xs.drop ((numR xs).2.1 + (numR xs).1), 0)) := by
          unfold bR
          rw [if_pos rfl, if_pos h1, if_neg h2, if_neg h3]
        have hr := num_room hb h1
        have el : ((xs.drop (numR xs).2.1).take (numR xs).1).length = (numR xs).1 := by rw [List.length_take, List.length_drop]; omega
        rw [eb]
        dsimp only
        refine ⟨(numR xs).2.1 + (numR xs).1, by omega, rfl, by rw [el]; omega, (hb.drop _).take _, fun h4 => ?_, fun h4 => ⟨fun he => ?_, fun hne => ?_⟩⟩
        · unfold openR
          rw [if_neg (by simp [h1]), if_neg h2, if_neg h3, if_pos h4]
          exact ⟨by decide, rfl, rfl⟩
        · have e2 := openR_seal (ys := (xs.drop (numR xs).2.1).take (numR xs).1) (by rw [el]; omega) (xs.drop ((numR xs).2.1 + (numR xs).1 + 4))
          have e3 : (sealL ((xs.drop (numR xs).2.1).take (numR xs).1)).length = (numR xs).2.1 + (numR xs).1 + 4 := by rw [he, List.length_take]; omega
          rw [e3] at e2
          rw [he, List.take_append_drop] at e2
          exact e2
        · by_cases hg : get4 (xs.drop ((numR xs).2.1 + (numR xs).1)) = sumN (xs.take ((numR xs).2.1 + (numR xs).1))
          · exfalso
            have eo : openR xs = ((xs.drop (numR xs).2.1).take (numR xs).1, (numR xs).2.1 + (numR xs).1 + 4, 0) := by
              unfold openR
              rw [if_neg (by simp [h1]), if_neg h2, if_neg h3, if_neg (by omega), if_neg (by simp [hg])]
            obtain ⟨d, rest, e1, e2, e3, e4⟩ := openR_form hb (by rw [eo])
            rw [eo] at e1
            injection e1 with e5 e6
            injection e6 with e6 _
            rw [← e5] at e6 e4
            apply hne
            rw [e6]
            have e7 := List.take_left (l₁ := sealL ((xs.drop (numR xs).2.1).take (numR xs).1)) (l₂ := rest)
            rw [← e4] at e7
            exact e7.symm
          · unfold openR
            rw [if_neg (by simp [h1]), if_neg h2, if_neg h3, if_neg (by omega), if_pos hg]
            exact ⟨by decide, rfl, rfl⟩
  · rw [if_neg h1] at h'
    exact absurd h' h1

/-- What Open leaves. -/
def OpnP (w : World) (xs : List Int) (e : Ending) (w' : World) : Prop :=
  ∃ p2 c2, ∃ er : Int, e = .returned (.tuple #[.slice p2 (openR xs).1.length c2, .int .i64 (openR xs).2.1, .int .i64 er]) ∧ (er = 0 ↔ (openR xs).2.2 = 0) ∧ Ow .u8 5 w' w.heap.size p2 (openR xs).1.length c2 (openR xs).1 ∧ Below w.heap.size w w'

theorem OpnP.bad {w w' : World} {xs : List Int} {er : Int} (h : (openR xs).2.2 ≠ 0 ∧ (openR xs).1 = [] ∧ (openR xs).2.1 = 0) (he : er ≠ 0) (hb : Below w.heap.size w w') : OpnP w xs (.returned (.tuple #[.slice none 0 0, .int .i64 0, .int .i64 er])) w' := by
  refine ⟨none, 0, er, by rw [h.2.1, h.2.2]; rfl, ⟨fun e => absurd e he, fun e => absurd e h.1⟩, ?_, hb⟩
  rw [h.2.1]
  exact Ow.empty _ _ _ _ _

set_option maxRecDepth 20000 in
set_option maxHeartbeats 4000000 in
theorem rOpen_any (w : World) (p : Option Addr) (n c : Nat) (xs : List Int) (hr : Rd .u8 w p n c xs) (hx : By xs) (hn : n ≤ 1099511627776) :
    Calls Tryz.prog 93 #[.slice p n c] w (OpnP w xs) := by
  have hxl := hr.len
  have hA := At.new 112 w #[.slice p n c, .int .i64 0, .int .i64 0]
  have hba := below_alloc w (.cells #[.slice p n c, .int .i64 0, .int .i64 0] 112)
  have hQ0 : QS1 (w.alloc (.cells #[.slice p n c, .int .i64 0, .int .i64 0] 112)) w.heap.size p n c xs (xs, 0) :=
    ⟨0, 0, ⟨hA, hr.below' hba, hx, hn, Nat.zero_le _, fun x e h0 => Nat.ne_of_lt (hr.ltb x e h0)⟩, rfl, Iff.rfl, by decide⟩
  have hB := rBytes_any _ w.heap.size p n c xs (xs, 0) hQ0 8192 (by decide)
  obtain ⟨g, HG⟩ : ∃ z, Hid (z = w.heap.size) := ⟨_, rfl⟩
  obtain ⟨wa, HWA⟩ : ∃ z, Hid (z = w.alloc (.cells #[.slice p n c, .int .i64 0, .int .i64 0] 112)) := ⟨_, rfl⟩
  obtain ⟨rr, HRR⟩ : ∃ z, Hid (z = bR 8192 (xs, 0)) := ⟨_, rfl⟩
  rw [← HRR.out] at hB
  have HBA : Hid (Below w.heap.size w wa ∧ g < wa.heap.size ∧ w.heap.size ≤ g) := ⟨by rw [HWA.out]; exact hba, by rw [HWA.out, HG.out]; simp, by rw [HG.out]; exact Nat.le_refl _⟩
  have HX : Hid (By xs) := hx
  have HR : Hid (Rd .u8 w p n c xs) := hr
  rw [← HG.out] at hB
  have hBB : Calls Tryz.prog 66 #[.pointer (some ⟨g, 0, none⟩), .int .i64 8192] wa (BytP wa g p n c xs rr) := by rw [HWA.out]; exact hB
  clear hA hba hQ0 hB hx hr
  go_enter Tryz.func93, Tryz.ntmps93
  go_wp2_with fail
  rw [← HG.out, ← HWA.out]
  refine hBB.mono ?_
  rintro e w1 ⟨⟨p2, c2, rfl, hO⟩, ⟨a, er, hq, hs1, hs2, h100⟩, hex⟩
  clear hBB
  have HB1 : Hid (Below w.heap.size w w1) := by
    have h1 := HBA.out
    exact h1.1.trans (hex.below h1.2.2 h1.2.1)
  have HQ : Hid (QR w1 g p n c xs a er) := hq
  have HO : Hid (Ow .u8 5 w1 wa.heap.size p2 rr.1.length c2 rr.1) := hO
  obtain ⟨c0, c1, c3⟩ := hq.blk.three
  have hle := hq.le
  clear hq hex hO
  by_cases he : er = 0
  · subst he
    have h0 := hs2.1 rfl
    rw [HRR.out] at h0
    obtain ⟨t, t1, t2, t3, t4, t5, t6⟩ := bR_good HX.out h0
    rw [HRR.out, t2] at hs1
    obtain rfl : a = t := by
      have := congrArg List.length hs1
      rw [List.length_drop, List.length_drop] at this
      omega
    rw [← HRR.out] at t3 t4 t6
    clear h0 hs1 hs2 t2
    by_cases h4 : n - a < 4
    · have hsi : (n : Int) - (a : Int) < 4 := by omega
      have HF : Hid ((openR xs).2.2 ≠ 0 ∧ (openR xs).1 = [] ∧ (openR xs).2.1 = 0) := t5 (by omega)
      clear t5 t6
      go_wp2_with fail
      go_ret3
      exact OpnP.bad HF.out (by decide) HB1.out
    · have hsi : ¬ (n : Int) - (a : Int) < 4 := by omega
      have HS : Hid ((sealL rr.1 = xs.take (a + 4) → openR xs = (rr.1, a + 4, 0)) ∧ (sealL rr.1 ≠ xs.take (a + 4) → (openR xs).2.2 ≠ 0 ∧ (openR xs).1 = [] ∧ (openR xs).2.1 = 0)) := t6 (by omega)
      have hSl := rseal_any p2 rr.1.length c2 rr.1 w1 HO.out.rd t4 t3
      have HT4 : Hid (By rr.1) := t4
      obtain ⟨nn, HNN⟩ : ∃ z, Hid (z = rr.1.length) := ⟨_, rfl⟩
      rw [← HNN.out] at hSl
      rw [← HNN.out]
      clear t5 t6 t4
      go_wp2_with fail
      refine hSl.mono ?_
      rintro e w2 ⟨p3, n3, c4, rfl, hO3, hb2⟩
      clear hSl c0 c1 c3
      have HO3 : Hid (Ow .u8 5 w2 w1.heap.size p3 n3 c4 (sealL rr.1)) := hO3
      have HB2 : Hid (Below w1.heap.size w1 w2) := hb2
      have HQ2 : Hid (QR w2 g p n c xs a 0) := HQ.out.below hb2
      obtain ⟨b, o, rfl, _⟩ := HR.out.cells (by omega)
      clear hO3 hb2
      go_wp2_with fail
      obtain ⟨s1, HS1⟩ : ∃ z, Hid (z = strOfNums (sealL rr.1)) := ⟨_, rfl⟩
      obtain ⟨s2, HS2⟩ : ∃ z, Hid (z = strOfNums (xs.take (a + 4))) := ⟨_, rfl⟩
      have hcap := HR.out.cap
      have hnn : a + 4 ≤ n := by omega
      have h0a : (0 : Int) ≤ (a : Int) + 4 := by omega
      have hac : (a : Int) + 4 ≤ (c : Int) := by omega
      have hS8 : Bl w2 w2.drew := (Below.refl _ _).drew
      have hS8w : ∀ W, Bl w2 W → (W.cell? ⟨g, 1, none⟩ = some (.int .i64 a) ∧ (convert 40 9 (.slice p3 n3 c4)).run Tryz.prog W = .ok (.string s1) W ∧ (convert 40 9 (.slice (some ⟨b, o, none⟩) (a + 4) c)).run Tryz.prog W = .ok (.string s2) W) := by
        intro W hW
        have hbW := Bl.out' hW
        have hq := HQ2.out.below hbW
        refine ⟨hq.blk.three.2.1, ?_, ?_⟩
        · rw [HS1.out]; exact (HO3.out.below hbW).rd.str
        · rw [HS2.out]
          have h1 := hq.rd.sub 0 (a + 4) c (by omega) (by omega)
          rw [Nat.add_zero, List.drop_zero] at h1
          exact h1.str
      refine wp_region_dyn [0, 1, 2, 3, 4, 5, 6, 7, 8, 9, 10] (fun W => W.cell? ⟨g, 1, none⟩ = some (.int .i64 a) ∧ (convert 40 9 (.slice p3 n3 c4)).run Tryz.prog W = .ok (.string s1) W ∧ (convert 40 9 (.slice (some ⟨b, o, none⟩) (a + 4) c)).run Tryz.prog W = .ok (.string s2) W) (Bl w2) (by kernel_rfl) hS8 ?_
      refine wpDyn_take ?vM0 (Bl.stays w2) hS8w (i := 0) rfl (by kernel_rfl) (by kernel_rfl) (by kernel_rfl) (by kernel_rfl) (by kernel_rfl) (fun _ _ _ h => h) (Gives.value (by rfl) ?yM0) ?rM0
      case yM0 => (intro w' hSw; (try dsimp only at hSw); go_simp; try with_reducible rfl)
      (try simp only [Act.put, List.getElem_toArray, List.getElem_cons_zero, List.getElem_cons_succ, List.setIfInBounds_toArray, List.set_cons_zero, List.set_cons_succ])
      refine wpDyn_take (.string s1) (Bl.stays w2) hS8w (i := 1) rfl (by kernel_rfl) (by kernel_rfl) (by kernel_rfl) (by kernel_rfl) (by kernel_rfl) (fun _ _ _ h => h) (Gives.value (by rfl) ?yM1) ?rM1
      case yM1 => (intro w' hSw; have hz0 := hSw.2.1; go_simp)
      (try simp only [Act.put, List.getElem_toArray, List.getElem_cons_zero, List.getElem_cons_succ, List.setIfInBounds_toArray, List.set_cons_zero, List.set_cons_succ])
      refine wpDyn_take ?vM2 (Bl.stays w2) hS8w (i := 2) rfl (by kernel_rfl) (by kernel_rfl) (by kernel_rfl) (by kernel_rfl) (by kernel_rfl) (fun _ _ _ h => h) (Gives.value (by rfl) ?yM2) ?rM2
      case yM2 => (intro w' hSw; (try dsimp only at hSw); go_simp; try with_reducible rfl)
      (try simp only [Act.put, List.getElem_toArray, List.getElem_cons_zero, List.getElem_cons_succ, List.setIfInBounds_toArray, List.set_cons_zero, List.set_cons_succ])
      refine wpDyn_take ?vM3 (Bl.stays w2) hS8w (i := 3) rfl (by kernel_rfl) (by kernel_rfl) (by kernel_rfl) (by kernel_rfl) (by kernel_rfl) (fun _ _ _ h => h) (Gives.value (by rfl) ?yM3) ?rM3
      case yM3 => (intro w' hSw; (try dsimp only at hSw); go_simp; try with_reducible rfl)
      (try simp only [Act.put, List.getElem_toArray, List.getElem_cons_zero, List.getElem_cons_succ, List.setIfInBounds_toArray, List.set_cons_zero, List.set_cons_succ])
      refine wpDyn_take ?vM4 (Bl.stays w2) hS8w (i := 4) rfl (by kernel_rfl) (by kernel_rfl) (by kernel_rfl) (by kernel_rfl) (by kernel_rfl) (fun _ _ _ h => h) (Gives.value (by rfl) ?yM4) ?rM4
      case yM4 => (intro w' hSw; (try dsimp only at hSw); go_simp; try with_reducible rfl)
      (try simp only [Act.put, List.getElem_toArray, List.getElem_cons_zero, List.getElem_cons_succ, List.setIfInBounds_toArray, List.set_cons_zero, List.set_cons_succ])
      refine wpDyn_take ?vM5 (Bl.stays w2) hS8w (i := 5) rfl (by kernel_rfl) (by kernel_rfl) (by kernel_rfl) (by kernel_rfl) (by kernel_rfl) (fun _ _ _ h => h) (Gives.value (by rfl) ?yM5) ?rM5
      case yM5 => (intro w' hSw; (try dsimp only at hSw); go_simp; try with_reducible rfl)
      (try simp only [Act.put, List.getElem_toArray, List.getElem_cons_zero, List.getElem_cons_succ, List.setIfInBounds_toArray, List.set_cons_zero, List.set_cons_succ])
      refine wpDyn_take ?vM6 (Bl.stays w2) hS8w (i := 6) rfl (by kernel_rfl) (by kernel_rfl) (by kernel_rfl) (by kernel_rfl) (by kernel_rfl) (fun _ _ _ h => h) (Gives.value (by rfl) ?yM6) ?rM6
      case yM6 => (intro w' hSw; have hz0 := hSw.1; (try dsimp only at hSw); go_simp; try with_reducible rfl)
      (try simp only [Act.put, List.getElem_toArray, List.getElem_cons_zero, List.getElem_cons_succ, List.setIfInBounds_toArray, List.set_cons_zero, List.set_cons_succ])
      refine wpDyn_take (.int .i64 ((a : Int) + 4)) (Bl.stays w2) hS8w (i := 7) rfl (by kernel_rfl) (by kernel_rfl) (by kernel_rfl) (by kernel_rfl) (by kernel_rfl) (fun _ _ _ h => h) (Gives.value (by rfl) ?yM7) ?rM7
      case yM7 => (intro w' hSw; clear hSw; go_simp; first | done | (rw [show ((a : Int) + 4) = ((a : Int) + ((4 : Nat) : Int)) from rfl, wrapI2 a 4 (by omega)]; exact Int.natCast_add _ _))
      (try simp only [Act.put, List.getElem_toArray, List.getElem_cons_zero, List.getElem_cons_succ, List.setIfInBounds_toArray, List.set_cons_zero, List.set_cons_succ])
      refine wpDyn_take (.slice (some ⟨b, o, none⟩) (a + 4) c) (Bl.stays w2) hS8w (i := 8) rfl (by kernel_rfl) (by kernel_rfl) (by kernel_rfl) (by kernel_rfl) (by kernel_rfl) (fun _ _ _ h => h) (Gives.value (by rfl) ?yM8) ?rM8
      case yM8 => (intro w' hSw; clear hSw; go_simp; omega)
      (try simp only [Act.put, List.getElem_toArray, List.getElem_cons_zero, List.getElem_cons_succ, List.setIfInBounds_toArray, List.set_cons_zero, List.set_cons_succ])
      refine wpDyn_take (.string s2) (Bl.stays w2) hS8w (i := 9) rfl (by kernel_rfl) (by kernel_rfl) (by kernel_rfl) (by kernel_rfl) (by kernel_rfl) (fun _ _ _ h => h) (Gives.value (by rfl) ?yM9) ?rM9
      case yM9 => (intro w' hSw; have hz0 := hSw.2.2; go_simp)
      (try simp only [Act.put, List.getElem_toArray, List.getElem_cons_zero, List.getElem_cons_succ, List.setIfInBounds_toArray, List.set_cons_zero, List.set_cons_succ])
      refine wpDyn_take ?vM10 (Bl.stays w2) hS8w (i := 10) rfl (by kernel_rfl) (by kernel_rfl) (by kernel_rfl) (by kernel_rfl) (by kernel_rfl) (fun _ _ _ h => h) (Gives.value (by rfl) ?yM10) ?rM10
      case yM10 => (intro w' hSw; (try dsimp only at hSw); go_simp; try with_reducible rfl)
      (try simp only [Act.put, List.getElem_toArray, List.getElem_cons_zero, List.getElem_cons_succ, List.setIfInBounds_toArray, List.set_cons_zero, List.set_cons_succ])
      refine wpDyn_done (by kernel_rfl) (fun W2 hW2 => ?_) _
      clear hS8w hS8
      have HBW : Hid (Below w.heap.size w W2) := (HB1.out.trans (HB2.out.mono HB1.out.size)).trans ((Bl.out' hW2).mono (Nat.le_trans HB1.out.size HB2.out.size))
      have hb12 := HB2.out.trans ((Bl.out' hW2).mono HB2.out.size)
      have HO2 : Hid (Ow .u8 5 W2 wa.heap.size p2 rr.1.length c2 rr.1) := HO.out.below hb12
      have hq2 := HQ.out.below hb12
      obtain ⟨c0, c1, c3⟩ := hq2.blk.three
      clear hW2 hb12 hq2
      cases hbs : (s1.toList == s2.toList) with
      | true =>
        have hE := eq_of_beq hbs
        rw [HS1.out, HS2.out, Lib.strOfNums_toList, Lib.strOfNums_toList] at hE
        have HE : Hid (openR xs = (rr.1, a + 4, 0)) := HS.out.1 (str_inj (sealL_by HT4.out) (HX.out.take _) hE)
        clear hE
        go_wp2_with fail
        go_quiet (fail)
        go_wp2_with fail
        go_ret3
        refine ⟨p2, c2, 0, by rw [HE.out]; dsimp only; rw [← HNN.out]; rfl, by rw [HE.out]; exact ⟨fun _ => rfl, fun _ => rfl⟩, ?_, below_drewN HBW.out _⟩
        rw [HE.out]
        exact (HO2.out.lower HBA.out.1.size).below (below_drewN (Below.refl _ _) _)
      | false =>
        have HFF : Hid ((openR xs).2.2 ≠ 0 ∧ (openR xs).1 = [] ∧ (openR xs).2.1 = 0) := HS.out.2 (fun e => by rw [HS1.out, HS2.out, e] at hbs; simp at hbs)
        go_wp2_with fail
        go_ret3
        exact OpnP.bad HFF.out (by decide) HBW.out
  · have HF : Hid ((openR xs).2.2 ≠ 0 ∧ (openR xs).1 = [] ∧ (openR xs).2.1 = 0) := openR_bR (by rw [← HRR.out]; exact fun e => he (hs2.2 e))
    have hne : ((er : Int) != 0) = true := by simp; omega
    have he0 : (er : Int) ≠ 0 := by omega
    clear hs1 hs2
    go_wp2_with fail
    go_quiet (fail)
    go_wp2_with fail
    go_ret3
    exact OpnP.bad HF.out he0 (below_drewN HB1.out _)

end Go.Proofs.YtpjhadaiodnnaaaGreat.M
end

section
namespace Go.Proofs.YtpjhadaiodnnaaaGreat.M
open Go.ChangeShapes Go.WideShapes Go.ChangeAt Go.RowKit
set_option linter.unusedSimpArgs false

set_option maxRecDepth 20000 in
set_option maxHeartbeats 1000000 in
theorem rall_some (b o n c : Nat) (xs : List Int) (w : World) (hr : Rd .u8 w (some ⟨b, o, none⟩) n c xs) (hx : By xs) (hn : n ≤ 1099511627776) :
    Calls Tryz.prog 64 #[.slice (some ⟨b, o, none⟩) n c] w fun e w' => ∃ p' k' c' vs, e = .returned (.tuple #[.slice p' k' c', .int .i64 ((allR xs).2 : Nat)]) ∧ OwV 40 w' w.heap.size p' k' c' vs ∧ Slo 5 w' w.heap.size vs (allR xs).1 ∧ Below w.heap.size w w' := by
  have hlen := hr.len
  have hcap := hr.cap
  obtain ⟨i0, hi0, hz0, hz1, hz2⟩ := info_parts infoS
  go_enter Tryz.func64, Tryz.ntmps64
  go_wp2_with fail
  go_loopw [4, 5, 11] (fun l a ix wr => ∃ (i : Nat), ix = .int .i64 i ∧ ∃ (p' : Option Addr) (k' c' : Nat) (vs : List Value) (t : Nat) (yss : List (List Int)), l = .slice p' k' c' ∧ a = .int .i64 t ∧ t ≤ n ∧ k' ≤ t ∧ 5 * i ≤ t ∧ OwV 40 wr w.heap.size p' k' c' vs ∧ Slo 5 wr w.heap.size vs yss ∧ Below w.heap.size w wr ∧ Hid (allR xs = (yss ++ (allR (xs.drop t)).1, t + (allR (xs.drop t)).2))) (fun _ _ ix _ => n - (intOf ix).toNat)
  case atStart => exact ⟨0, rfl, none, 0, 0, [], 0, [], rfl, rfl, Nat.zero_le _, Nat.zero_le _, Nat.le_refl _, OwV.empty _ _ _ _, Slo.nil _ _ _, Below.refl _ _, by unfold Hid; simp⟩
  case round =>
    obtain ⟨i, rfl, p', k', c', vs, t, yss, rfl, rfl, ht, hkt, h5, ho, hs, hb, HA⟩ := hrel
    by_cases hin : i < n
    case neg =>
      obtain rfl : n = 0 := by omega
      obtain rfl : t = 0 := by omega
      have hii : ¬ (i : Int) < ((0 : Nat) : Int) := by omega
      have HE : Hid (allR xs = (yss, 0)) := by
        unfold Hid
        rw [HA.out, allR_end (by rw [List.length_eq_zero_iff.1 hlen]; rw [show ([] : List Int).drop 0 = [] from rfl, openR_nil]; decide)]
        simp
      clear HA hr hx
      go_wp2_with fail
      go_ret2
      refine ⟨p', k', c', ?_, vs, ho, ?_, hb⟩
      · rw [HE.out]; rfl
      · rw [HE.out]; exact hs
    have hii : (i : Int) < (n : Int) := by omega
    have hrd : ∃ q m d, Rd .u8 w q m d (xs.drop t) ∧ m = n - t ∧ ((t = c ∧ q = some ⟨b, o, none⟩ ∧ d = 0) ∨ (t < c ∧ q = some ⟨b, o + t, none⟩ ∧ d = c - t)) := by
      by_cases hc : t = c
      · have h0 : xs.drop t = [] := List.drop_of_length_le (by omega)
        exact ⟨some ⟨b, o, none⟩, 0, 0, by rw [h0]; exact Rd.empty _ _ _ _ (fun h => by cases h), by omega, Or.inl ⟨hc, rfl, rfl⟩⟩
      · exact ⟨_, _, _, hr.from t ht, rfl, Or.inr ⟨by omega, rfl, rfl⟩⟩
    obtain ⟨q, m, d, hq, hm, hcase⟩ := hrd
    have hO : Calls Tryz.prog 93 #[.slice q m d] wr (fun e w' => ∃ p2 c2, ∃ er : Int, e = .returned (.tuple #[.slice p2 (openR (xs.drop t)).1.length c2, .int .i64 (openR (xs.drop t)).2.1, .int .i64 er]) ∧ (er = 0 ↔ (openR (xs.drop t)).2.2 = 0) ∧ Ow .u8 5 w' wr.heap.size p2 (openR (xs.drop t)).1.length c2 (openR (xs.drop t)).1 ∧ Below wr.heap.size wr w') := rOpen_any wr q m d (xs.drop t) (hq.below' hb) (hx.drop t) (by omega)
    have hby := hx.drop t
    have hdl : (xs.drop t).length = n - t := by rw [List.length_drop, hlen]
    have hgo : ∀ {Q : Prop}, (((openR (xs.drop t)).2.2 = 0 → Q) ∧ ((openR (xs.drop t)).2.2 ≠ 0 → Q)) → Q := fun h => by
      by_cases e : (openR (xs.drop t)).2.2 = 0
      · exact h.1 e
      · exact h.2 e
    have ht2 : (t : Int) ≤ (n : Int) := by omega
    have hn2 : (n : Int) ≤ (c : Int) := by omega
    by_cases he : (openR (xs.drop t)).2.2 = 0
    · have hrm := openR_room hby he
      have hstp := allR_step hby he
      have hdd : (xs.drop t).drop (openR (xs.drop t)).2.1 = xs.drop (t + (openR (xs.drop t)).2.1) := List.drop_drop
      rw [hdd] at hstp
      have HB : Hid (allR xs = ((yss ++ [(openR (xs.drop t)).1]) ++ (allR (xs.drop (t + (openR (xs.drop t)).2.1))).1, (t + (openR (xs.drop t)).2.1) + (allR (xs.drop (t + (openR (xs.drop t)).2.1))).2)) := by
        unfold Hid
        rw [HA.out, hstp]
        dsimp only
        rw [List.append_assoc]
        congr 1
        omega
      rw [he] at hO
      generalize (openR (xs.drop t)).1 = dat at hO HB hrm
      generalize (openR (xs.drop t)).2.1 = sz at hO HB hrm
      clear hgo he hstp hdd HA hby hq hx hr
      rcases hcase with ⟨rfl, rfl, rfl⟩ | ⟨hlt, rfl, rfl⟩
      · exfalso
        omega
      · have hlt2 : ¬ t = c := by omega
        have hlt3 : (t : Int) < (c : Int) := by omega
        subst hm
        go_wp2_with fail
        refine hO.mono ?_
        rintro e w1 ⟨p1, c1, er, rfl, her, ho1, hb1⟩
        obtain rfl : er = 0 := by first | exact her.2 rfl | exact her.2 trivial
        have hs1 := hs.below hb1
        have hoL := ho.below hb1
        have hbb1 := hb.trans (hb1.mono hb.size)
        have hbW := hb.size
        clear hO hs ho hb hb1
        have hc1 : (w1.alloc (.cells #[.slice p1 dat.length c1] 40)).cell? ⟨w1.heap.size, 0, none⟩ = some (.slice p1 dat.length c1) := by simp
        go_wp2_with (refine wpList_appV _ rfl (.tmp 23) (.tmp 25) 41 rfl 40 i0 (.slice none 0 0) 24 Tryz.underlying41 hi0 hz0 hz1 hz2 rfl w.heap.size p' k' c' vs rfl (hoL.below (below_alloc _ _)) _ _ _ _ rfl hc1 rfl ?b1 ?b2 ?b3 ?_)
        case b1 => omega
        case b2 => unfold maxLen; omega
        case b3 => (have := hbb1.size; simp; omega)
        intro p2 c2 w2 ho2 hb2 hk2
        have hs2 := ((hs1.below (below_alloc _ (.cells #[.slice p1 dat.length c1] 40))).snoc ((ho1.lower hbW).below (below_alloc _ _))).kept hk2 (by decide)
        have hbb2 := (hbb1.alloc hbb1.size (.cells #[.slice p1 dat.length c1] 40)).trans hb2
        clear hs1 hoL hbb1 hb2 hk2 ho1
        go_wp2_with fail
        go_roundw
        case rel => exact ⟨i + 1, by go_num, p2, k' + 1, c2, _, t + sz, yss ++ [dat], rfl, by go_num, by omega, by omega, by omega, ho2, hs2, hbb2, HB⟩
        case measure => simp [intOf]; omega
    · have hend := allR_end he
      have HE : Hid (allR xs = (yss, t)) := by
        unfold Hid
        rw [HA.out, hend]
        simp
      have hz : ((openR (xs.drop t)).1.length = 0) := by
        have := openR_bad he
        rw [this.1]; rfl
      have hne0 : (openR (xs.drop t)).2.2 ≠ 0 := he
      generalize (openR (xs.drop t)).1 = dat at hO hz
      generalize (openR (xs.drop t)).2.1 = sz at hO
      generalize (openR (xs.drop t)).2.2 = er at hO hne0
      clear hgo he hend HA hby hdl hq hx hr hz
      rcases hcase with ⟨rfl, rfl, rfl⟩ | ⟨hlt, rfl, rfl⟩
      · obtain rfl : n = t := by omega
        obtain rfl : m = 0 := by omega
        clear hm hlen hcap ht ht2 hn2
        go_wp2_with fail
        refine hO.mono ?_
        rintro e w1 ⟨p1, c1, ee, rfl, her, ho1, hb1⟩
        have hne2 : (ee != 0) = true := by simpa using (fun h => hne0 (her.1 h))
        go_wp2_with fail
        go_ret2
        exact ⟨p', k', c', vs, by rw [HE.out]; rfl, ho.below hb1, by rw [HE.out]; exact hs.below hb1, hb.trans (hb1.mono hb.size)⟩
      · have hlt2 : ¬ t = c := by omega
        have hlt3 : (t : Int) < (c : Int) := by omega
        subst hm
        go_wp2_with fail
        refine hO.mono ?_
        rintro e w1 ⟨p1, c1, ee, rfl, her, ho1, hb1⟩
        have hne2 : (ee != 0) = true := by simpa using (fun h => hne0 (her.1 h))
        go_wp2_with fail
        go_ret2
        exact ⟨p', k', c', vs, by rw [HE.out]; rfl, ho.below hb1, by rw [HE.out]; exact hs.below hb1, hb.trans (hb1.mono hb.size)⟩

set_option maxRecDepth 20000 in
theorem rall_zero (p : Option Addr) (c : Nat) (w : World) :
    Calls Tryz.prog 64 #[.slice p 0 c] w fun e w' => e = .returned (.tuple #[.slice none 0 0, .int .i64 0]) ∧ Below w.heap.size w w' := by
  go_enter Tryz.func64, Tryz.ntmps64
  go_wp2_with fail
  go_loopw [4, 5, 11] (fun l a i wr => l = .slice none 0 0 ∧ a = .int .i64 0 ∧ i = .int .i64 0 ∧ wr = w) (fun _ _ _ _ => 0)
  case atStart => exact ⟨rfl, rfl, rfl, rfl⟩
  case round =>
    obtain ⟨rfl, rfl, rfl, rfl⟩ := hrel
    go_wp2_with fail
    go_ret2
    exact ⟨rfl, Below.refl _ _⟩

theorem rAll_any (p : Option Addr) (n c : Nat) (xs : List Int) (w : World) (hr : Rd .u8 w p n c xs) (hx : By xs) (hn : n ≤ 1099511627776) :
    Calls Tryz.prog 64 #[.slice p n c] w fun e w' => ∃ p' k' c' vs, e = .returned (.tuple #[.slice p' k' c', .int .i64 ((allR xs).2 : Nat)]) ∧ OwV 40 w' w.heap.size p' k' c' vs ∧ Slo 5 w' w.heap.size vs (allR xs).1 ∧ Below w.heap.size w w' := by
  by_cases h0 : n = 0
  · subst h0
    obtain rfl : xs = [] := List.length_eq_zero_iff.1 hr.len
    refine (rall_zero p c w).mono ?_
    rintro e w' ⟨rfl, hb⟩
    have he : allR [] = ([], 0) := allR_end (by rw [openR_nil]; decide)
    rw [he]
    exact ⟨none, 0, 0, [], rfl, OwV.empty _ _ _ _, Slo.nil _ _ _, hb⟩
  · obtain ⟨b, o, rfl, _⟩ := hr.cells (by omega)
    exact rall_some b o n c xs w hr hx hn

end Go.Proofs.YtpjhadaiodnnaaaGreat.M
end

section
namespace Go.Proofs.YtpjhadaiodnnaaaGreat.M
open Go.ChangeShapes Go.WideShapes Go.ChangeAt Go.RowKit
set_option linter.unusedSimpArgs false

theorem allR_facts (xs : List Int) (hx : By xs) : (allR xs).2 ≤ xs.length ∧ (∀ d ∈ (allR xs).1, By d ∧ d.length ≤ 8192) ∧ 5 * (allR xs).1.length ≤ xs.length := by
  have key : ∀ f (ys : List Int), By ys → (allF f ys).2 ≤ ys.length ∧ (∀ d ∈ (allF f ys).1, By d ∧ d.length ≤ 8192) ∧ 5 * (allF f ys).1.length ≤ ys.length := by
    intro f
    induction f with
    | zero => intro ys _; exact ⟨Nat.zero_le _, (fun d hd => by cases hd), Nat.zero_le _⟩
    | succ f ih =>
      intro ys hy
      unfold allF
      by_cases h : (openR ys).2.2 = 0
      · rw [if_pos h]
        obtain ⟨h1, h2, h3, h4⟩ := openR_room hy h
        obtain ⟨k1, k2, k3⟩ := ih (ys.drop (openR ys).2.1) (hy.drop _)
        rw [List.length_drop] at k1 k3
        refine ⟨by dsimp only; omega, fun d hd => ?_, by dsimp only; rw [List.length_cons]; omega⟩
        rcases List.mem_cons.1 hd with rfl | hd
        · exact ⟨h3, h4⟩
        · exact k2 d hd
      · rw [if_neg h]
        exact ⟨Nat.zero_le _, (fun d hd => by cases hd), Nat.zero_le _⟩
  exact key _ xs hx

theorem results_tmp4 {fn : Func} {t u v x : Tmp} (h : fn.results = #[.tmp t, .tmp u, .tmp v, .tmp x]) (tmps : Array Value) (P : Program) (w : World) :
    (results fn tmps).run P w = .ok (.tuple #[tmps.getD t undef, tmps.getD u undef, tmps.getD v undef, tmps.getD x undef]) w := by
  simp [results, h]

/-- What reel leaves. -/
def ReelP (w : World) (xs : List Int) (e : Ending) (w' : World) : Prop :=
  ∃ p' c', ∃ rest : Bool, e = .returned (.tuple #[.int .i64 (ldR xs).1.gen, .string (strOfNums (ldR xs).1.base), .slice p' (ldR xs).1.recs.length c', .bool rest]) ∧ OwV 9 w' w.heap.size p' (ldR xs).1.recs.length c' (strs (ldR xs).1.recs) ∧ ((ldR xs).1.gen ≠ 0 → rest = !(ldR xs).2) ∧ Below w.heap.size w w'

theorem ReelP.no {w w' : World} {xs : List Int} {rest : Bool} (h : (ldR xs).1 = .z0) (hb : Below w.heap.size w w') : ReelP w xs (.returned (.tuple #[.int .i64 0, .string ⟨#[]⟩, .slice none 0 0, .bool rest])) w' := by
  unfold ReelP
  rw [h]
  exact ⟨none, 0, rest, rfl, OwV.empty _ _ _ _, fun h => absurd rfl h, hb⟩

set_option maxRecDepth 20000 in
set_option maxHeartbeats 4000000 in
theorem reel_any (w : World) (p : Option Addr) (n c : Nat) (xs : List Int) (hr : Rd .u8 w p n c xs) (hx : By xs) (hn : n ≤ 1099511627776) :
    Calls Tryz.prog 34 #[.slice p n c] w (ReelP w xs) := by
  have hA := rAll_any p n c xs w hr hx hn
  have HXL : Hid (xs.length = n) := hr.len
  have HF : Hid ((allR xs).2 ≤ xs.length ∧ (∀ d ∈ (allR xs).1, By d ∧ d.length ≤ 8192) ∧ 5 * (allR xs).1.length ≤ xs.length) := allR_facts xs hx
  obtain ⟨L, HL⟩ : ∃ z, Hid (z = (allR xs).1) := ⟨_, rfl⟩
  obtain ⟨u, HU⟩ : ∃ z, Hid (z = (allR xs).2) := ⟨_, rfl⟩
  rw [← HL.out, ← HU.out] at hA
  obtain ⟨i0, hi0, hz0, hz1, hz2⟩ := info_parts infoT
  have HBX : Hid (By xs) := hx
  clear hr hx
  go_enter Tryz.func34, Tryz.ntmps34
  go_wp2_with fail
  refine hA.mono ?_
  rintro e w1 ⟨p1, k1, c1, vs, rfl, hO1, hS1, hb1⟩
  clear hA
  have hkl : k1 = L.length := by rw [← hS1.1, hO1.len]
  have HB1 : Hid (Below w.heap.size w w1) := hb1
  clear hb1
  have hk40 : k1 ≤ 1099511627776 := by
    have h := HF.out.2.2
    rw [← HL.out] at h
    have := HXL.out
    omega
  have hu40 : u ≤ n := by
    have h := HF.out.1
    rw [← HU.out, HXL.out] at h
    exact h
  by_cases h0 : k1 = 0
  · subst h0
    have HZ : Hid ((ldR xs).1 = .z0) := by
      show _ = _
      unfold ldR
      rw [if_pos (by rw [← HL.out]; exact List.length_eq_zero_iff.1 hkl.symm)]
    clear hO1 hS1 hkl
    go_wp2_with fail
    ((try simp only [Exit.inBlock, Exit.then]); refine bodyPost_ret (results_tmp4 rfl _ _ _) rfl ?_)
    exact ReelP.no HZ.out HB1.out
  · have h0b : ((k1 : Int) == 0) = false := by simp; omega
    have h0i : (0 : Int) < (k1 : Int) := by omega
    obtain ⟨b1, o1, rfl, hcl⟩ := hO1.rd.cells (by omega)
    obtain ⟨q0, m0, d0, hv0, hw0⟩ := hS1.2 0 (by rw [hS1.1, ← hkl]; omega)
    have hc0 := hcl 0 (by omega)
    rw [hv0] at hc0
    rw [Nat.add_zero] at hc0
    have hXf0 := allR_by xs HBX.out 0 (by rw [← HL.out]; omega)
    rw [← HL.out] at hXf0
    obtain ⟨X, HX⟩ : ∃ z, Hid (z = L.getD 0 []) := ⟨_, rfl⟩
    rw [← HX.out] at hw0 hXf0
    have hXf := hXf0
    have hAt := At.new 112 w1 #[.slice q0 m0 d0, .int .i64 0, .int .i64 0]
    have hba := below_alloc w1 (.cells #[.slice q0 m0 d0, .int .i64 0, .int .i64 0] 112)
    have hm0 : m0 ≤ 1099511627776 := by rw [← hw0.len]; omega
    have hQ0 : QS1 (w1.alloc (.cells #[.slice q0 m0 d0, .int .i64 0, .int .i64 0] 112)) w1.heap.size q0 m0 d0 X (X, 0) :=
      ⟨0, 0, ⟨hAt, hw0.rd.below' hba, hXf.1, hm0, Nat.zero_le _, fun x e h0 => Nat.ne_of_lt (hw0.rd.ltb x e h0)⟩, rfl, Iff.rfl, by decide⟩
    have hW1 := rWithin_any _ w1.heap.size q0 m0 d0 X (X, 0) hQ0 1 (by decide)
    obtain ⟨g, HG⟩ : ∃ z, Hid (z = w1.heap.size) := ⟨_, rfl⟩
    obtain ⟨wa, HWA⟩ : ∃ z, Hid (z = w1.alloc (.cells #[.slice q0 m0 d0, .int .i64 0, .int .i64 0] 112)) := ⟨_, rfl⟩
    rw [← HG.out] at hW1
    obtain ⟨rA, HRA⟩ : ∃ z, Hid (z = wL 1 (X, 0)) := ⟨_, rfl⟩
    rw [← HRA.out] at hW1
    have hWW : Calls Tryz.prog 65 #[.pointer (some ⟨g, 0, none⟩), .int .i64 1, .int .i64 1099511627776] wa fun e w' => e = .returned (.int .i64 rA.1) ∧ QS1 w' g q0 m0 d0 X rA.2 ∧ Ex g wa w' := by rw [HWA.out]; exact hW1
    have HBA : Hid (Below w1.heap.size w1 wa ∧ g < wa.heap.size ∧ w1.heap.size ≤ g) := ⟨by rw [HWA.out]; exact hba, by rw [HWA.out, HG.out]; simp, by rw [HG.out]; exact Nat.le_refl _⟩
    have HO1 : Hid (OwV 40 w1 w.heap.size (some ⟨b1, o1, none⟩) k1 c1 vs ∧ Slo 5 w1 w.heap.size vs L) := ⟨hO1, hS1⟩
    clear hQ0 hAt hba hW1 hw0 hv0 hcl hXf hXf0 hO1 hS1
    go_wp2_with fail
    rw [← HG.out, ← HWA.out]
    refine hWW.mono ?_
    rintro e w2 ⟨rfl, hq2, hx2⟩
    clear hWW hc0
    have hW2 := rWithin_any w2 g q0 m0 d0 X rA.2 hq2 0 (by decide)
    obtain ⟨rB, HRB⟩ : ∃ z, Hid (z = wL 0 rA.2) := ⟨_, rfl⟩
    rw [← HRB.out] at hW2
    have HX2 : Hid (Ex g wa w2) := hx2
    clear hq2 hx2
    go_wp2_with fail
    refine hW2.mono ?_
    rintro e w3 ⟨rfl, hq3, hx3⟩
    clear hW2
    have hBt := rBytes_any w3 g q0 m0 d0 X rB.2 hq3 8176 (by decide)
    obtain ⟨rC, HRC⟩ : ∃ z, Hid (z = bR 8176 rB.2) := ⟨_, rfl⟩
    rw [← HRC.out] at hBt
    have HX3 : Hid (Ex g wa w3) := HX2.out.trans hx3
    clear hq3 hx3
    have HLD : Hid (ldR xs = if endR rC.2 = 0 ∧ rB.1 ≤ (L.length : Int) - 1 then (⟨rA.1, rC.1, L.drop 1⟩, decide (u = xs.length)) else (.z0, false)) := by
      show _ = _
      unfold ldR
      rw [if_neg (by rw [← HL.out]; intro e; rw [e] at hkl; exact h0 hkl), HRC.out, HRB.out, HRA.out, HX.out, HL.out, HU.out]
    obtain ⟨gen, HGen⟩ : ∃ z, Hid (z = rA.1) := ⟨_, rfl⟩
    obtain ⟨many, HMany⟩ : ∃ z, Hid (z = rB.1) := ⟨_, rfl⟩
    rw [← HGen.out, ← HMany.out]
    go_wp2_with fail
    refine hBt.mono ?_
    rintro e w4 ⟨⟨p4, c4, rfl, hO4⟩, hq4, hx4⟩
    clear hBt
    have hE := rEnd_any w4 g q0 m0 d0 X rC.2 hq4
    have HX4 : Hid (Ex g wa w4) := HX3.out.trans hx4
    obtain ⟨sB, HSB⟩ : ∃ z, Hid (z = strOfNums rC.1) := ⟨_, rfl⟩
    obtain ⟨nB, HnB⟩ : ∃ z, Hid (z = rC.1.length) := ⟨_, rfl⟩
    have hst := hO4.rd.str
    rw [← HSB.out, ← HnB.out] at hst
    rw [← HnB.out]
    clear hq4 hx4 hO4
    go_wp2_with fail
    refine hE.mono ?_
    rintro e w5 ⟨⟨x, rfl, hx0⟩, hb5⟩
    clear hE hst
    have HB15 : Hid (Below w1.heap.size w1 w5) := (HBA.out.1.trans (HX4.out.below HBA.out.2.2 HBA.out.2.1)).trans (hb5.mono (Nat.le_trans HBA.out.1.size HX4.out.size))
    have HBW : Hid (Below w.heap.size w w5) := HB1.out.trans (HB15.out.mono HB1.out.size)
    clear hb5
    by_cases hx1 : x = 0
    · subst hx1
      by_cases hmy : (k1 : Int) - 1 < many
      · have HZ : Hid ((ldR xs).1 = .z0) := by
          show _ = _
          rw [HLD.out, if_neg (fun h => by have := h.2; rw [← HMany.out, ← hkl] at this; omega)]
        clear hx0
        go_wp2_with fail
        ((try simp only [Exit.inBlock, Exit.then]); refine bodyPost_ret (results_tmp4 rfl _ _ _) rfl ?_)
        exact ReelP.no HZ.out HBW.out
      · have HG2 : Hid (ldR xs = (⟨gen, rC.1, L.drop 1⟩, decide (u = n))) := by
          show _ = _
          rw [HLD.out, if_pos ⟨hx0.1 rfl, by rw [← HMany.out, ← hkl]; omega⟩, ← HGen.out, HXL.out]
        have hcap := HO1.out.1.cap
        obtain ⟨b2, o2, e2, hT⟩ := (HO1.out.1.rd.below HB15.out).tail (by omega)
        cases e2
        have hST := (HO1.out.2.below HB15.out).tail
        have hi1 : (1 : Int) ≤ (k1 : Int) := by omega
        have hi2 : (k1 : Int) ≤ (c1 : Int) := by omega
        obtain ⟨R, HR⟩ : ∃ z, Hid (z = L.drop 1) := ⟨_, rfl⟩
        rw [← HR.out] at hST
        obtain ⟨kt, rfl⟩ : ∃ z, k1 = z + 1 := ⟨k1 - 1, by omega⟩
        rw [Nat.add_sub_cancel] at hT
        have hi3 : (1 : Int) ≤ (kt : Int) + 1 := by omega
        have hi4 : (kt : Int) + 1 ≤ (c1 : Int) := by omega
        have HRl : Hid (R.length = kt) := by show _ = _; rw [HR.out, List.length_drop, ← hkl, Nat.add_sub_cancel]
        have hkt40 : kt ≤ 1099511627776 := by omega
        by_cases hc1 : c1 = 1
        · skip
          have HT : Hid (RdV w5 (some ⟨b1, o1, none⟩) kt (c1 - 1) (vs.drop 1) ∧ Slo 5 w5 w.heap.size (vs.drop 1) R) := by
            exact ⟨by first | (rw [if_pos hc1] at hT; exact hT) | (rw [if_neg hc1] at hT; exact hT), hST⟩
          clear hT hST hx0
          go_wp2_with fail
          go_loopw [51, 12] (fun ix l wr => ∃ (k : Nat) (p' : Option Addr) (c' : Nat), k ≤ kt ∧ ix = .int .i64 k ∧ l = .slice p' k c' ∧ OwV 9 wr w5.heap.size p' k c' (strs (R.take k)) ∧ Below w5.heap.size w5 wr) (fun ix _ _ => kt - (intOf ix).toNat)
          case atStart => exact ⟨0, none, 0, by omega, rfl, rfl, OwV.empty _ _ _ _, Below.refl _ _⟩
          case round =>
            obtain ⟨k, p', c', hk, rfl, rfl, ho, hb⟩ := hrel
            by_cases hkn : k < kt
            · exfalso
              omega
            · obtain rfl : k = kt := by omega
              have HO : Hid (OwV 9 wr w.heap.size p' k c' (strs R)) := by
                show OwV _ _ _ _ _ _ _
                have h1 : R.take k = R := List.take_of_length_le (by rw [HRl.out]; exact Nat.le_refl _)
                rw [h1] at ho
                exact ho.lowerB HBW.out.size
              have HBB : Hid (Below w.heap.size w wr) := HBW.out.trans (hb.mono HBW.out.size)
              clear ho hb
              go_wp2_with fail
              ((try simp only [Exit.inBlock, Exit.then]); refine bodyPost_ret (results_tmp4 rfl _ _ _) rfl ?_)
              refine ⟨p', c', decide (u < n), ?_, ?_, fun _ => ?_, HBB.out⟩
              · rw [HG2.out]
                dsimp only
                rw [← HSB.out, ← HR.out, HRl.out]
                rfl
              · rw [HG2.out]
                dsimp only
                rw [← HR.out, HRl.out]
                exact HO.out
              · rw [HG2.out]
                dsimp only
                by_cases hun : u = n
                · rw [decide_eq_true hun, decide_eq_false (by omega)]
                  rfl
                · rw [decide_eq_false hun, decide_eq_true (by omega)]
                  rfl
        · skip
          have HT : Hid (RdV w5 (some ⟨b1, o1 + 1, none⟩) kt (c1 - 1) (vs.drop 1) ∧ Slo 5 w5 w.heap.size (vs.drop 1) R) := by
            exact ⟨by first | (rw [if_pos hc1] at hT; exact hT) | (rw [if_neg hc1] at hT; exact hT), hST⟩
          clear hT hST hx0
          go_wp2_with fail
          go_loopw [51, 12] (fun ix l wr => ∃ (k : Nat) (p' : Option Addr) (c' : Nat), k ≤ kt ∧ ix = .int .i64 k ∧ l = .slice p' k c' ∧ OwV 9 wr w5.heap.size p' k c' (strs (R.take k)) ∧ Below w5.heap.size w5 wr) (fun ix _ _ => kt - (intOf ix).toNat)
          case atStart => exact ⟨0, none, 0, by omega, rfl, rfl, OwV.empty _ _ _ _, Below.refl _ _⟩
          case round =>
            obtain ⟨k, p', c', hk, rfl, rfl, ho, hb⟩ := hrel
            by_cases hkn : k < kt
            · have hki : (k : Int) < (kt : Int) := by omega
              have hkr : k < R.length := by rw [HRl.out]; exact hkn
              obtain ⟨b, o, e3, hcl⟩ := HT.out.1.cells (by omega)
              cases e3
              obtain ⟨q, m, d, hq, hr⟩ := HT.out.2.2 k (by rw [HT.out.2.1]; exact hkr)
              have hcx := cell_below hb (hcl k hkn)
              rw [hq] at hcx
              obtain ⟨ys, hys⟩ : ∃ z, Hid (z = R.getD k []) := ⟨_, rfl⟩
              rw [← hys.out] at hr
              have hst := (hr.rd.below' hb).str
              have hcz : (wr.alloc (.cells #[.string (strOfNums ys)] 9)).cell? ⟨wr.heap.size, 0, none⟩ = some (.string (strOfNums ys)) := by simp
              have hsz := hb.size
              clear hcl hq hr
              go_wp2_with (refine wpList_appV _ rfl (.tmp 55) (.tmp 58) 49 rfl 9 i0 (.string ByteArray.empty) 16 Tryz.underlying49 hi0 hz0 hz1 hz2 rfl w5.heap.size p' k c' _ rfl (ho.below (below_alloc _ _)) _ _ _ _ rfl hcz rfl ?b1 ?b2 ?b3 ?_)
              case b1 => omega
              case b2 => unfold maxLen; omega
              case b3 => (simp; omega)
              intro p3 c3 w6 ho3 hb3 hk3
              have hbb3 := (hb.alloc hb.size (.cells #[.string (strOfNums ys)] 9)).trans hb3
              have HO3 : Hid (OwV 9 w6 w5.heap.size p3 (k + 1) c3 (strs (R.take (k + 1)))) := by
                show OwV _ _ _ _ _ _ _
                rw [strs_snoc hkr, ← hys.out]
                exact ho3
              clear ho3 ho hb hb3 hk3 hst hcz hcx
              go_wp2_with fail
              go_roundw
              case rel => exact ⟨k + 1, p3, c3, by omega, by go_num, by go_num, HO3.out, hbb3⟩
              case measure => simp [intOf]; omega
            · obtain rfl : k = kt := by omega
              have HO : Hid (OwV 9 wr w.heap.size p' k c' (strs R)) := by
                show OwV _ _ _ _ _ _ _
                have h1 : R.take k = R := List.take_of_length_le (by rw [HRl.out]; exact Nat.le_refl _)
                rw [h1] at ho
                exact ho.lowerB HBW.out.size
              have HBB : Hid (Below w.heap.size w wr) := HBW.out.trans (hb.mono HBW.out.size)
              clear ho hb
              go_wp2_with fail
              ((try simp only [Exit.inBlock, Exit.then]); refine bodyPost_ret (results_tmp4 rfl _ _ _) rfl ?_)
              refine ⟨p', c', decide (u < n), ?_, ?_, fun _ => ?_, HBB.out⟩
              · rw [HG2.out]
                dsimp only
                rw [← HSB.out, ← HR.out, HRl.out]
                rfl
              · rw [HG2.out]
                dsimp only
                rw [← HR.out, HRl.out]
                exact HO.out
              · rw [HG2.out]
                dsimp only
                by_cases hun : u = n
                · rw [decide_eq_true hun, decide_eq_false (by omega)]
                  rfl
                · rw [decide_eq_false hun, decide_eq_true (by omega)]
                  rfl
    · have HZ : Hid ((ldR xs).1 = .z0) := by
        show _ = _
        rw [HLD.out, if_neg (fun h => hx1 (hx0.2 h.1))]
      have hxb : (x != 0) = true := by simpa using hx1
      clear hx0
      go_wp2_with fail
      ((try simp only [Exit.inBlock, Exit.then]); refine bodyPost_ret (results_tmp4 rfl _ _ _) rfl ?_)
      exact ReelP.no HZ.out HBW.out

end Go.Proofs.YtpjhadaiodnnaaaGreat.M
end
