/-
  Own text: the reference's reader: contracts of Within and End, and of the reference's Get.
-/
import Derived.Test.YtcnkpgbmegppbaaJRNum
import Derived.Test.YtcnkpgbmegppbaaJCmd2
namespace Go.Proofs.Ytcnkpgbmegppbaa.M
open Go.ChangeShapes Go.WideShapes Go.ChangeAt Go.RowKit

/-- The reference's reader in block g has this left to read, and failed where the other did. -/
def RS (w : World) (g : Nat) (s : List Int × Nat) : Prop := ∃ p n c B at_ er, RQ w g p n c B at_ er ∧ (er = 0 ↔ s.2 = 0) ∧ (s.2 = 0 → B.drop at_ = s.1)

theorem RS.below {w w' : World} {g : Nat} {s : List Int × Nat} (h : RS w g s) (hb : Below w.heap.size w w') : RS w' g s := by
  obtain ⟨p, n, c, B, at_, er, h, h1, h2⟩ := h
  exact ⟨p, n, c, B, at_, er, h.below hb, h1, h2⟩

theorem RS.lt {w : World} {g : Nat} {s : List Int × Nat} (h : RS w g s) : g < w.heap.size := by
  obtain ⟨p, n, c, B, at_, er, h, h1, h2⟩ := h
  exact h.lt

set_option maxRecDepth 20000 in
set_option maxHeartbeats 4000000 in
theorem rNumber_no (g : Nat) (p : Option Addr) (n c : Nat) (B : List Int) (at_ er : Nat) (w : World) (h : RQ w g p n c B at_ er) (he : er ≠ 0) :
    Calls Try.prog 61 #[.pointer (some ⟨g, 0, none⟩)] w fun e w' => e = .returned (.int .u64 0) ∧ w' = w := by
  have q2 := h.c2
  have hd0 : ((er : Int) != 0) = true := by simp [he]
  clear h he
  go_enter Try.func61, Try.ntmps61
  go_wp2_with fail
  go_ret
  exact ⟨rfl, rfl⟩

set_option maxRecDepth 20000 in
set_option maxHeartbeats 4000000 in
theorem rWithin_any (g : Nat) (s : List Int × Nat) (w : World) (h : RS w g s) :
    Calls Try.prog 39 #[.pointer (some ⟨g, 0, none⟩), .int .i64 0, .int .i64 1099511627776] w fun e w' => e = .returned (.int .i64 (wR s).1) ∧ RS w' g (wR s).2 ∧ Ex g w w' := by
  obtain ⟨p, n, c, B, at_, er, h, h1, h2⟩ := h
  obtain ⟨xs, err⟩ := s
  dsimp only at h1 h2
  have q1 := h.c1
  have q2 := h.c2
  by_cases h0 : err = 0
  · subst h0
    obtain rfl : er = 0 := h1.2 rfl
    obtain rfl : B.drop at_ = xs := h2 rfl
    have hN := rNumber_ok g p n c B at_ w h
    unfold RNumPost at hN
    have hby : By (B.drop at_) := h.byt.drop _
    by_cases he : (numR (B.drop at_)).2.2 = 0
    · have hroom := num_room hby he
      have hll : at_ + (numR (B.drop at_)).2.1 ≤ n := by have := h.rd.len; have h3 := hroom.2.1; have h4 := h.le; rw [List.length_drop] at h3; omega
      obtain ⟨m, hm64, hme, _⟩ := numR_form hby he
      have hv : (numR (B.drop at_)).1 < 18446744073709551616 := by rw [hme]; exact hm64
      by_cases hle : (numR (B.drop at_)).1 ≤ 1099511627776
      · have HW : Hid (wR (B.drop at_, 0) = (((numR (B.drop at_)).1 : Int), ((B.drop at_).drop (numR (B.drop at_)).2.1, 0))) := by unfold Hid wR; dsimp only; rw [if_pos rfl, if_pos he, if_pos hle]
        have HF : ∀ W, RQ W g p n c B (at_ + (numR (B.drop at_)).2.1) 0 → Hid (RS W g ((B.drop at_).drop (numR (B.drop at_)).2.1, 0)) := fun W hq => ⟨p, n, c, B, _, 0, hq, Iff.rfl, fun _ => by rw [List.drop_drop]⟩
        rw [HW.out]
        clear HW hme
        generalize numR (B.drop at_) = N at *
        obtain ⟨v, a, z⟩ := N
        dsimp only at *
        subst he
        have hc1 : IntKind.i64.wrap (v : Int) = (v : Int) := by rw [IntKind.wrap_i64]; omega
        have d1 : decide ((4611686018427387904 : Int) < (v : Int)) = false := decide_eq_false (by omega)
        have d2 : decide ((v : Int) < 0) = false := decide_eq_false (by omega)
        have d3 : decide ((1099511627776 : Int) < (v : Int)) = false := decide_eq_false (by omega)
        clear hv hle h h1 h2 hroom hby
        go_enter Try.func39, Try.ntmps39
        go_wp2_with fail
        refine hN.mono ?_
        rintro e w1 (⟨_, rfl, hq, hx⟩ | ⟨hb, _⟩)
        · have q3 := hq.c2
          have hR := HF w1 hq
          clear hN HF hq
          go_wp2_with fail
          go_ret
          exact ⟨rfl, hR.out, hx⟩
        · exact absurd rfl hb
      · have HW : Hid (wR (B.drop at_, 0) = (0, (B.drop at_, 5))) := by unfold Hid wR; dsimp only; rw [if_pos rfl, if_pos he, if_neg hle]
        have HF : ∀ W, RQ W g p n c B at_ 5 → Hid (RS W g (B.drop at_, 5)) := fun W hq => ⟨p, n, c, B, _, 5, hq, Iff.rfl, fun hf => absurd hf (by decide : ¬ (5 : Nat) = 0)⟩
        rw [HW.out]
        clear HW hme
        generalize numR (B.drop at_) = N at *
        obtain ⟨v, a, z⟩ := N
        dsimp only at *
        subst he
        have hat := h.le
        clear h h1 h2 hroom hby
        by_cases hbig : 4611686018427387904 < v
        · have d1 : decide ((4611686018427387904 : Int) < (v : Int)) = true := decide_eq_true (by omega)
          clear hv hle hbig
          go_enter Try.func39, Try.ntmps39
          go_wp2_with fail
          refine hN.mono ?_
          rintro e w1 (⟨_, rfl, hq, hx⟩ | ⟨hb, _⟩)
          · have q3 := hq.c1
            have q4 := hq.c2
            have f1 := hq.free 1
            have f2 := hq.free 2
            have hR := HF _ ((hq.setA at_ hat).setE 5)
            have hX := (hx.setCell 1 (.int .i64 at_)).setCell 2 (.int .i64 5)
            clear hN HF hq hx
            go_wp2_with fail
            go_ret
            exact ⟨rfl, hR.out, hX⟩
          · exact absurd rfl hb
        · have hc1 : IntKind.i64.wrap (v : Int) = (v : Int) := by rw [IntKind.wrap_i64]; omega
          have d1 : decide ((4611686018427387904 : Int) < (v : Int)) = false := decide_eq_false (by omega)
          have d2 : decide ((v : Int) < 0) = false := decide_eq_false (by omega)
          have d3 : decide ((1099511627776 : Int) < (v : Int)) = true := decide_eq_true (by omega)
          clear hv hle hbig
          go_enter Try.func39, Try.ntmps39
          go_wp2_with fail
          refine hN.mono ?_
          rintro e w1 (⟨_, rfl, hq, hx⟩ | ⟨hb, _⟩)
          · have q3 := hq.c1
            have q4 := hq.c2
            have f1 := hq.free 1
            have f2 := hq.free 2
            have hR := HF _ ((hq.setA at_ hat).setE 5)
            have hX := (hx.setCell 1 (.int .i64 at_)).setCell 2 (.int .i64 5)
            clear hN HF hq hx
            go_wp2_with fail
            go_ret
            exact ⟨rfl, hR.out, hX⟩
          · exact absurd rfl hb
    · have HW : Hid (wR (B.drop at_, 0) = (0, (B.drop at_, (numR (B.drop at_)).2.2))) := by unfold Hid wR; dsimp only; rw [if_pos rfl, if_neg he]
      have HF : ∀ W er, er ≠ 0 → RQ W g p n c B at_ er → Hid (RS W g (B.drop at_, (numR (B.drop at_)).2.2)) := fun W er h0 hq => ⟨p, n, c, B, _, er, hq, ⟨fun h => absurd h h0, fun h => absurd h he⟩, fun hf => absurd hf he⟩
      rw [HW.out]
      clear HW
      generalize numR (B.drop at_) = N at *
      obtain ⟨v, a, z⟩ := N
      dsimp only at *
      clear h h1 h2 hby
      go_enter Try.func39, Try.ntmps39
      go_wp2_with fail
      refine hN.mono ?_
      rintro e w1 (⟨hb, _⟩ | ⟨_, rfl, ⟨er, h0, hq⟩, hx⟩)
      · exact absurd hb he
      · have q3 := hq.c2
        have hR := HF w1 er h0 hq
        have hd0 : ((er : Int) == 0) = false := by rw [beq_eq_false_iff_ne]; omega
        have hd1 : ((er : Int) != 0) = true := by simp [h0]
        clear hN HF hq h0 he
        go_wp2_with fail
        go_ret
        exact ⟨rfl, hR.out, hx⟩
  · have HW : Hid (wR (xs, err) = (0, (xs, err))) := by unfold Hid wR; dsimp only; rw [if_neg h0]
    have he0 : er ≠ 0 := fun h => h0 (h1.1 h)
    have hR : Hid (RS w g (xs, err)) := ⟨p, n, c, B, at_, er, h, h1, h2⟩
    have hN := rNumber_no g p n c B at_ er w h he0
    have hd0 : ((er : Int) == 0) = false := by rw [beq_eq_false_iff_ne]; omega
    have hd1 : ((er : Int) != 0) = true := by simp [he0]
    rw [HW.out]
    clear h HW h0 h1 h2 he0
    go_enter Try.func39, Try.ntmps39
    go_wp2_with fail
    refine hN.mono ?_
    rintro e w1 ⟨rfl, hw⟩
    subst hw
    clear hN
    go_wp2_with fail
    go_ret
    exact ⟨rfl, hR.out, Ex.refl _ _⟩

set_option maxRecDepth 20000 in
set_option maxHeartbeats 2000000 in
theorem rEnd_any (g : Nat) (s : List Int × Nat) (w : World) (h : RS w g s) :
    Calls Try.prog 40 #[.pointer (some ⟨g, 0, none⟩)] w fun e w' => ∃ v : Int, e = .returned (.int .i64 v) ∧ (v = 0 ↔ endR s = 0) ∧ Below w.heap.size w w' := by
  obtain ⟨p, n, c, B, at_, er, h, h1, h2⟩ := h
  obtain ⟨xs, err⟩ := s
  dsimp only at h1 h2
  have q0 := h.c0
  have q1 := h.c1
  have q2 := h.c2
  have hl := h.rd.len
  have hle := h.le
  by_cases h0 : err = 0
  · subst h0
    obtain rfl : er = 0 := h1.2 rfl
    obtain rfl : B.drop at_ = xs := h2 rfl
    by_cases hx : at_ < n
    · have HW : Hid ((3 : Int) = 0 ↔ endR (B.drop at_, 0) = 0) := by
        unfold Hid endR
        dsimp only
        rw [if_pos rfl, if_neg (fun hd => by have := congrArg List.length hd; rw [List.length_drop, hl] at this; simp at this; omega)]
      have hd : decide ((at_ : Int) < (n : Int)) = true := decide_eq_true (by omega)
      clear h h1 h2 hl
      go_enter Try.func40, Try.ntmps40
      go_wp2_with fail
      go_quiet (fail)
      go_wp2_with fail
      go_ret
      exact ⟨3, rfl, HW.out, below_drewN (Below.refl _ _) _⟩
    · have HW : Hid (endR (B.drop at_, 0) = 0) := by
        unfold Hid endR
        dsimp only
        rw [if_pos rfl, if_pos (List.drop_of_length_le (by omega))]
      have hd : decide ((at_ : Int) < (n : Int)) = false := decide_eq_false (by omega)
      clear h h1 h2 hl
      go_enter Try.func40, Try.ntmps40
      go_wp2_with fail
      go_quiet (fail)
      go_wp2_with fail
      go_ret
      exact ⟨0, rfl, ⟨fun _ => HW.out, fun _ => rfl⟩, below_drewN (Below.refl _ _) _⟩
  · have he0 : er ≠ 0 := fun h => h0 (h1.1 h)
    have HW : Hid ((er : Int) = 0 ↔ endR (xs, err) = 0) := by
      unfold Hid endR
      dsimp only
      rw [if_neg h0]
      omega
    have hd0 : ((er : Int) == 0) = false := by rw [beq_eq_false_iff_ne]; omega
    clear h h1 h2 hl h0 he0
    go_enter Try.func40, Try.ntmps40
    go_wp2_with fail
    go_quiet (fail)
    go_wp2_with fail
    go_ret
    exact ⟨er, rfl, HW.out, below_drewN (Below.refl _ _) _⟩

theorem RQ.set {w : World} {g : Nat} {p : Option Addr} {n c : Nat} {B : List Int} {at_ er : Nat} (h : RQ w g p n c B at_ er) {x : Nat} (hx : g < x) (j : Nat) (v : Value) : RQ (w.setCell ⟨x, j, none⟩ v) g p n c B at_ er := by
  have hb : ∀ k, k ≤ g → (w.setCell ⟨x, j, none⟩ v).heap[k]? = w.heap[k]? := fun k hk => Below.heap_setCell _ _ _ _ (by show k ≠ x; omega)
  refine ⟨?_, ?_, ?_, fun i => ?_, ?_, h.far, h.byt, h.room, h.le⟩
  · exact (World.cell?_of_block (hb g (Nat.le_refl _))).trans h.c0
  · exact (World.cell?_of_block (hb g (Nat.le_refl _))).trans h.c1
  · exact (World.cell?_of_block (hb g (Nat.le_refl _))).trans h.c2
  · rw [World.frozen?_setCell]; exact h.free i
  · exact h.rd.kept (grown_setCell w x j v) (fun b o h0 hp => Nat.lt_trans (h.far b o h0 hp) hx)

theorem RS.set {w : World} {g : Nat} {s : List Int × Nat} (h : RS w g s) {x : Nat} (hx : g < x) {j : Nat} {v : Value} : RS (w.setCell ⟨x, j, none⟩ v) g s := by
  obtain ⟨p, n, c, B, at_, er, h, h1, h2⟩ := h
  exact ⟨p, n, c, B, at_, er, h.set hx j v, h1, h2⟩

/-- A reader behind k numbers. -/
def itR (xs : List Int) : Nat → List Int × Nat
  | 0 => (xs, 0)
  | k + 1 => (wR (itR xs k)).2

theorem At.set4 {t : TypeId} {w : World} {g k : Nat} {V : Nat → Int} (h : At t w g #[.int .i64 (V 0), .int .i64 (V 1), .int .i64 (V 2), .int .i64 (V 3)]) (hk : k < 4) (x : Int) :
    ∃ V' : Nat → Int, (∀ j, j < k → V' j = V j) ∧ V' k = x ∧ At t (w.setCell ⟨g, k, none⟩ (.int .i64 x)) g #[.int .i64 (V' 0), .int .i64 (V' 1), .int .i64 (V' 2), .int .i64 (V' 3)] := by
  refine ⟨fun j => if j = k then x else V j, fun j hj => if_neg (Nat.ne_of_lt hj), if_pos rfl, ?_⟩
  have h1 := heap_setCell_same w g k _ _ (.int .i64 x) h
  unfold At
  rw [h1]
  match k, hk with
  | 0, _ => rfl
  | 1, _ => rfl
  | 2, _ => rfl
  | 3, _ => rfl

theorem cmd4_it (xs : List Int) : cmd4 xs = ((wR (itR xs 0)).1, (wR (itR xs 1)).1, (wR (itR xs 2)).1, (wR (itR xs 3)).1, endR (itR xs 4)) := rfl

set_option maxRecDepth 20000 in
set_option maxHeartbeats 4000000 in
theorem rGet_any (p : Option Addr) (n c : Nat) (xs : List Int) (w : World) (hr : Rd .u8 w p n c xs) (hx : By xs) (hn : n ≤ 1099511627776) :
    Calls Try.prog 12 #[.slice p n c] w fun r w' => r = .returned (getV (getR xs)) ∧ Below w.heap.size w w' := by
  have b0 := below_alloc w (.cells #[.int .i64 0, .int .i64 0, .int .i64 0, .int .i64 0] 23)
  have b1 := below_alloc (w.alloc (.cells #[.int .i64 0, .int .i64 0, .int .i64 0, .int .i64 0] 23)) (.cells #[.slice p n c, .int .i64 0, .int .i64 0] 73)
  have b2 := below_alloc ((w.alloc (.cells #[.int .i64 0, .int .i64 0, .int .i64 0, .int .i64 0] 23)).alloc (.cells #[.slice p n c, .int .i64 0, .int .i64 0] 73)) (.cells #[.int .i64 0, .int .i64 0, .int .i64 0, .int .i64 0] 74)
  have hZ := ((At.new 23 w #[.int .i64 0, .int .i64 0, .int .i64 0, .int .i64 0]).below b1).below b2
  have hP1 := At.moved (g2 := w.heap.size + 1) (by simp) (At.new 73 (w.alloc (.cells #[.int .i64 0, .int .i64 0, .int .i64 0, .int .i64 0] 23)) #[.slice p n c, .int .i64 0, .int .i64 0])
  have hP := hP1.below b2
  have hV := At.moved (g2 := w.heap.size + 1 + 1) (by simp) (At.new 74 ((w.alloc (.cells #[.int .i64 0, .int .i64 0, .int .i64 0, .int .i64 0] 23)).alloc (.cells #[.slice p n c, .int .i64 0, .int .i64 0] 73)) #[.int .i64 0, .int .i64 0, .int .i64 0, .int .i64 0])
  have hB1 := b0.trans (b1.mono b0.size)
  have hB := hB1.trans (b2.mono hB1.size)
  have hS : RS (((w.alloc (.cells #[.int .i64 0, .int .i64 0, .int .i64 0, .int .i64 0] 23)).alloc (.cells #[.slice p n c, .int .i64 0, .int .i64 0] 73)).alloc (.cells #[.int .i64 0, .int .i64 0, .int .i64 0, .int .i64 0] 74)) (w.heap.size + 1) (itR xs 0) := ⟨p, n, c, xs, 0, 0, ⟨hP.cell 0, hP.cell 1, hP.cell 2, fun j => hP.free j, hr.below hB, fun b o h0 hp => by have := (hr.cells h0); obtain ⟨b', o', hp', hc⟩ := this; have h2 := World.block_lt_of_cell? _ _ (hc 0 h0); rw [hp] at hp'; injection hp' with e1; injection e1 with e1 _; dsimp only at h2; omega, hx, hn, Nat.zero_le _⟩, Iff.rfl, fun _ => rfl⟩
  clear hP hP1 b0 b1 b2 hB1 hr
  go_enter Try.func12, Try.ntmps12
  go_wp2_with fail
  generalize (((w.alloc (.cells #[.int .i64 0, .int .i64 0, .int .i64 0, .int .i64 0] 23)).alloc (.cells #[.slice p n c, .int .i64 0, .int .i64 0] 73)).alloc (.cells #[.int .i64 0, .int .i64 0, .int .i64 0, .int .i64 0] 74)) = w2 at *
  generalize hg0 : w.heap.size = g0 at *
  go_loopw [11] (fun i wr => ∃ (k : Nat) (V : Nat → Int), k ≤ 4 ∧ i = .int .i64 k ∧ Hid (∀ j, j < k → V j = (wR (itR xs j)).1) ∧ RS wr (g0 + 1) (itR xs k) ∧ At 74 wr (g0 + 1 + 1) #[.int .i64 (V 0), .int .i64 (V 1), .int .i64 (V 2), .int .i64 (V 3)] ∧ At 23 wr g0 #[.int .i64 0, .int .i64 0, .int .i64 0, .int .i64 0] ∧ Below g0 w wr) (fun i _ => 4 - (intOf i).toNat)
  case atStart => exact ⟨0, fun _ => 0, Nat.zero_le _, rfl, fun j hj => absurd hj (Nat.not_lt_zero j), hS, hV, hZ, hB⟩
  case round =>
    clear hS hV hZ hB
    obtain ⟨k, V, hk, rfl, HV, hS, hV, hZ, hB⟩ := hrel
    by_cases hk4 : k < 4
    · have hki : (k : Int) < 4 := by omega
      have hW := rWithin_any (g0 + 1) (itR xs k) wr hS
      have HN : Hid (itR xs (k + 1) = (wR (itR xs k)).2) := rfl
      have hgl := hS.lt
      clear hS
      go_wp2_with fail
      refine hW.mono ?_
      rintro e w1 ⟨rfl, hS1, hx1⟩
      have hV1 := hV.ex hx1 (by omega)
      have hZ1 := hZ.ex hx1 (by omega)
      have hB1 := hB.trans (hx1.below (by omega) hgl)
      rw [← HN.out] at hS1
      obtain ⟨x, Hx⟩ : ∃ x, Hid ((wR (itR xs k)).1 = x) := ⟨_, rfl⟩
      rw [Hx.out]
      obtain ⟨V', hV'1, hV'2, hV'3⟩ := hV1.set4 hk4 x
      have HV' : Hid (∀ j, j < k + 1 → V' j = (wR (itR xs j)).1) := by
        intro j hj
        rcases (show j < k ∨ j = k by omega) with h | rfl
        · rw [hV'1 j h]; exact HV.out j h
        · rw [hV'2]; exact Hx.out.symm
      have hq : w1.cell? ⟨g0 + 1 + 1, k, none⟩ = some (.int .i64 (V k)) := by
        rw [hV1.cell k]
        match k, hk4 with
        | 0, _ => rfl
        | 1, _ => rfl
        | 2, _ => rfl
        | 3, _ => rfl
      have hf := hV1.free k
      have hS2 : RS (w1.setCell ⟨g0 + 1 + 1, k, none⟩ (.int .i64 x)) (g0 + 1) (itR xs (k + 1)) := hS1.set (by omega)
      have hZ2 : At 23 (w1.setCell ⟨g0 + 1 + 1, k, none⟩ (.int .i64 x)) g0 #[.int .i64 0, .int .i64 0, .int .i64 0, .int .i64 0] := by
        unfold At
        rw [Below.heap_setCell _ _ _ _ (by show g0 ≠ g0 + 1 + 1; omega)]
        exact hZ1
      have hB2 : Below g0 w (w1.setCell ⟨g0 + 1 + 1, k, none⟩ (.int .i64 x)) := hB1.trans ((Ex.set1 w1 (g0 + 1 + 1) k (.int .i64 x)).below (by omega) hV1.lt)
      clear hW hV hZ hV1 hZ1 hB1 hx1 hS1 hV'1 hV'2 HV Hx HN hgl
      go_wp2_with fail
      go_roundw
      case rel => exact ⟨k + 1, V', by omega, by go_num, HV', hS2, hV'3, hZ2, hB2⟩
      case measure => simp [intOf]; omega
    · obtain rfl : k = 4 := by omega
      have HG : Hid (getR xs = if endR (itR xs 4) = 0 ∧ cmdOk (V 0) (V 1) (V 2) (V 3) = true then some (V 0, V 1, V 2, V 3) else none) := by
        show _ = _
        rw [HV.out 0 (by omega), HV.out 1 (by omega), HV.out 2 (by omega), HV.out 3 (by omega)]
        rfl
      obtain ⟨v1, h1⟩ : ∃ x, V 0 = x := ⟨_, rfl⟩
      obtain ⟨v2, h2⟩ : ∃ x, V 1 = x := ⟨_, rfl⟩
      obtain ⟨v3, h3⟩ : ∃ x, V 2 = x := ⟨_, rfl⟩
      obtain ⟨v4, h4⟩ : ∃ x, V 3 = x := ⟨_, rfl⟩
      rw [h1, h2, h3, h4] at HG hV
      generalize itR xs 4 = s4 at *
      clear HV h1 h2 h3 h4
      have hba := below_alloc wr (.cells #[.int .i64 v1, .int .i64 v2, .int .i64 v3, .int .i64 v4] 23)
      have hS5 := hS.below hba
      have hZ5 := hZ.below hba
      have hB5 := hB.trans (hba.mono (by have := hZ.lt; omega))
      have hC5 := At.new 23 wr #[.int .i64 v1, .int .i64 v2, .int .i64 v3, .int .i64 v4]
      have hE := rEnd_any (g0 + 1) s4 _ hS5
      obtain ⟨y0, y1, y2, y3⟩ := hV.four
      obtain ⟨c0, c1, c2, c3⟩ := hC5.four
      have hK := fun W => rCheck_any v1 v2 v3 v4 W
      clear hV hZ hB hS
      go_wp2_with fail
      generalize (wr.alloc (.cells #[.int .i64 v1, .int .i64 v2, .int .i64 v3, .int .i64 v4] 23)) = W5 at *
      refine hE.mono ?_
      rintro e W6 ⟨ev, rfl, hev, hb6⟩
      have hZ6 := hZ5.below hb6
      have hB6 := hB5.trans (hb6.mono (by have := hZ5.lt; omega))
      have hC6 := hC5.below hb6
      clear c0 c1 c2 c3 hZ5 hB5 hC5 hE hb6 hS5 hba y0 y1 y2 y3
      obtain ⟨c0, c1, c2, c3⟩ := hC6.four
      by_cases he : endR s4 = 0
      · obtain rfl : ev = 0 := hev.2 he
        cases hk : cmdOk v1 v2 v3 v4 with
        | true =>
          have HN : Hid (getR xs = some (v1, v2, v3, v4)) := by unfold Hid; rw [HG.out, if_pos ⟨he, hk⟩]
          rw [hk] at hK
          unfold cmdV at hK
          simp only [if_true] at hK
          clear HG hk he hev
          go_wp2_with fail
          refine (hK _).mono ?_
          rintro r W7 ⟨rfl, hb7⟩
          have hZ7 := hZ6.below hb7
          have hB7 := hB6.trans (hb7.mono (by have := hZ6.lt; omega))
          have hC7 := hC6.below hb7
          clear c0 c1 c2 c3 hK
          obtain ⟨c0, c1, c2, c3⟩ := hC7.four
          obtain ⟨z0, z1, z2, z3⟩ := hZ7.four
          have f0 := hZ7.free 0
          have f1 := hZ7.free 1
          have f2 := hZ7.free 2
          have f3 := hZ7.free 3
          go_wp2_with fail
          obtain ⟨Wf, hWf, hY, hbW⟩ := hZ7.put4 (Nat.le_refl _) w hB7 (.int .i64 v1) (.int .i64 v2) (.int .i64 v3) (.int .i64 v4)
          rw [← hWf]
          exact bodyPost_ret (results_row_tmp (p := 2) (u := 3) rfl _ _ g0 _ _ _ rfl hY Try.underlying23 rfl cmd_info) rfl ⟨by rw [HN.out]; rfl, hg0 ▸ hbW⟩
        | false =>
          have HN : Hid (getR xs = none) := by unfold Hid; rw [HG.out, if_neg (fun h => by rw [hk] at h; cases h.2)]
          rw [hk] at hK
          unfold cmdV at hK
          simp only [Bool.false_eq_true, if_false] at hK
          clear HG hk he hev
          go_wp2_with fail
          refine (hK _).mono ?_
          rintro r W7 ⟨rfl, hb7⟩
          have hZ7 := hZ6.below hb7
          have hB7 := hB6.trans (hb7.mono (by have := hZ6.lt; omega))
          clear c0 c1 c2 c3 hK
          obtain ⟨z0, z1, z2, z3⟩ := hZ7.four
          have f0 := hZ7.free 0
          have f1 := hZ7.free 1
          have f2 := hZ7.free 2
          have f3 := hZ7.free 3
          go_wp2_with fail
          obtain ⟨Wf, hWf, hY, hbW⟩ := hZ7.put4 (Nat.le_refl _) w hB7 (.int .i64 0) (.int .i64 0) (.int .i64 0) (.int .i64 0)
          rw [← hWf]
          exact bodyPost_ret (results_row_tmp (p := 2) (u := 3) rfl _ _ g0 _ _ _ rfl hY Try.underlying23 rfl cmd_info) rfl ⟨by rw [HN.out]; rfl, hg0 ▸ hbW⟩
      · have HN : Hid (getR xs = none) := by unfold Hid; rw [HG.out, if_neg (fun h => he h.1)]
        have hEb : (ev != 0) = true := by simp; exact fun h => he (hev.1 h)
        obtain ⟨z0, z1, z2, z3⟩ := hZ6.four
        have f0 := hZ6.free 0
        have f1 := hZ6.free 1
        have f2 := hZ6.free 2
        have f3 := hZ6.free 3
        clear HG he hev hK
        go_wp2_with fail
        obtain ⟨Wf, hWf, hY, hbW⟩ := hZ6.put4 (Nat.le_refl _) w hB6 (.int .i64 0) (.int .i64 0) (.int .i64 0) (.int .i64 0)
        rw [← hWf]
        exact bodyPost_ret (results_row_tmp (p := 2) (u := 3) rfl _ _ g0 _ _ _ rfl hY Try.underlying23 rfl cmd_info) rfl ⟨by rw [HN.out]; rfl, hg0 ▸ hbW⟩

end Go.Proofs.Ytcnkpgbmegppbaa.M
