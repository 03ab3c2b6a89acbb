/-
  Own text: the contract of links' Forget.
-/
import Derived.Test.YtmnipfdcbmamnaaNAwake
import Derived.Test.YtmnipfdcbmamnaaNRange
namespace Go.Proofs.Ytmnipfdcbmamnaa.M
open Go.ChangeShapes Go.WideShapes Go.ChangeAt Go.RowKit Go.ChangeMaps Go.MapKept Go.Maps

variable {Z : Nat → Prop}

theorem MapIs.congr {P : Program} {k : TypeId} {w : World} {b n : Nat} {f f' : Value → Option Value} (h : MapIs P k w b n f) (he : ∀ key l, keyOf P k key = some l → f' key = f key) : MapIs P k w b n f' := by
  obtain ⟨es, clock, h1, h2, h3, h4⟩ := h
  exact ⟨es, clock, h1, h2, h3, fun key l hl => by rw [he key l hl]; exact h4 key l hl⟩

/-- A key of no link of this place. -/
def Dpl (p : Int) (v : Value) : Prop := ∃ a c, v = lkV a c ∧ ¬ (a = p ∨ c = p)

/-- What is left when a place is forgotten. -/
def clrN (N : Int → Int → List ByteArray) (p : Int) : Int → Int → List ByteArray := fun a c => if a = p ∨ c = p then [] else N a c

theorem fL_some {F : Int → Int → Option Value} {v u : Value} (h : fL F v = some u) : ∃ a c, v = lkV a c ∧ F a c = some u := by
  unfold fL at h
  cases v with
  | agg cs =>
    obtain ⟨l⟩ := cs
    dsimp only at h
    match l, h with
    | [.int .i64 a, .int .i64 c], h => exact ⟨a, c, rfl, h⟩
  | _ => cases h

theorem lkV_inj {a c a' c' : Int} (h : lkV a c = lkV a' c') : a = a' ∧ c = c' := by
  unfold lkV at h
  simp at h
  exact h

/-- Behind the loop. -/
theorem forget_nb {w W : World} {B g b n side : Nat} {lost : Int} {N N' : Int → Int → List ByteArray} {R : Int → Int → Value} (h : NB Z w B g b n side lost N R) (p : Int) (hex : Ex b w W)
    (hm : MapIs Try.prog 33 W b n (fL fun x y => nv (N' x y) (R x y))) (hN : ∀ x y, N' x y = N x y ∨ (N' x y = [] ∧ (x = p ∨ y = p)))
    (hend : ∀ key l v, keyOf Try.prog 33 key = some l → fL (fun x y => nv (N' x y) (R x y)) key = some v → Dpl p key) : NB Z W B g b n side lost (clrN N p) R := by
  have hc : ∀ x y, clrN N p x y ≠ [] → N x y ≠ [] := fun x y hn => by
    unfold clrN at hn
    by_cases hp : x = p ∨ y = p
    · rw [if_pos hp] at hn; exact absurd rfl hn
    · rw [if_neg hp] at hn; exact hn
  have hs : ∀ x y, clrN N p x y ≠ [] → clrN N p x y = N x y := fun x y hn => by
    unfold clrN at hn ⊢
    by_cases hp : x = p ∨ y = p
    · rw [if_pos hp] at hn; exact absurd rfl hn
    · rw [if_neg hp]
  refine ⟨h.blk.ex hex (Ne.symm h.ne), hm.congr fun key l hl => ?_, fun x y hn => ?_, fun x y x' y' hn hn' => h.apart x y x' y' (hc x y hn) (hc x' y' hn'), h.ne, fun x y hn => h.off x y (hc x y hn), h.lo, (h.zz.mono hex.size).1, h.zz.2.1, fun x y hn => h.zz.2.2 x y (hc x y hn)⟩
  · have hk : ∀ x y, key = lkV x y → nv (clrN N p x y) (R x y) = nv (N' x y) (R x y) := by
      intro x y e
      unfold clrN
      by_cases hp : x = p ∨ y = p
      · rw [if_pos hp]
        cases hq : N' x y with
        | nil => rfl
        | cons m l2 =>
          obtain ⟨a, c, e2, h2⟩ := hend key l (R x y) hl (by rw [e, fL_key, hq]; rfl)
          obtain ⟨rfl, rfl⟩ := lkV_inj (e.symm.trans e2)
          exact absurd hp h2
      · rw [if_neg hp]
        rcases hN x y with h1 | ⟨_, h1⟩
        · rw [h1]
        · exact absurd h1 hp
    cases hf : fL (fun x y => nv (N' x y) (R x y)) key with
    | some u =>
      obtain ⟨x, y, e, h2⟩ := fL_some hf
      rw [e, fL_key, hk x y e]
      exact h2
    | none =>
      cases hg : fL (fun x y => nv (clrN N p x y) (R x y)) key with
      | none => rfl
      | some u =>
        obtain ⟨x, y, e, h2⟩ := fL_some hg
        rw [e, fL_key, ← hk x y e, h2] at hf
        cases hf
  · rw [hs x y hn]
    exact ownsRow_ex (h.rows x y (hc x y hn)) hex (h.off x y (hc x y hn)).2

/-- Under way. -/
def FgI (w : World) (b r n : Nat) (p : Int) (N : Int → Int → List ByteArray) (R : Int → Int → Value) (wr : World) : Prop :=
  ∃ N' : Int → Int → List ByteArray, Ex b w wr ∧ RangeIs Try.prog 33 wr b r n (fL fun x y => nv (N' x y) (R x y)) (Dpl p) ∧ ∀ x y, N' x y = N x y ∨ (N' x y = [] ∧ (x = p ∨ y = p))

theorem FgI.out {w : World} {b r n : Nat} {p : Int} {N : Int → Int → List ByteArray} {R : Int → Int → Value} {wr : World} (h : FgI w b r n p N R wr) : ∃ N' : Int → Int → List ByteArray, Ex b w wr ∧ RangeIs Try.prog 33 wr b r n (fL fun x y => nv (N' x y) (R x y)) (Dpl p) ∧ ∀ x y, N' x y = N x y ∨ (N' x y = [] ∧ (x = p ∨ y = p)) := h

set_option linter.unusedSimpArgs false in
set_option maxRecDepth 20000 in
set_option maxHeartbeats 4000000 in
theorem Forget_any {w : World} {B g b n side : Nat} {lost : Int} {N : Int → Int → List ByteArray} {R : Int → Int → Value} (h : NB Z w B g b n side lost N R) (p : Int) :
    Calls Try.prog 30 #[.pointer (some ⟨g, 0, none⟩), .int .i64 p] w fun o w' => o = .returned (.int .i64 0) ∧ NB Z w' B g b n side lost (clrN N p) R ∧ BelF Z B g b w w' := by
  have hm := nmade_yes h
  obtain ⟨q0, q1, q2⟩ := h.blk.three
  obtain ⟨o, hro, hrg⟩ := h.map.range (D := Dpl p) mapT
  have hne := h.ne
  have HN : Hid (NB Z w B g b n side lost N R) := h
  have hlt := And.intro h.blk.lt h.map.lt
  have hex0 : Ex b w (w.alloc o) := Ex.of_below (below_alloc w o)
  clear h
  go_enter Try.func30, Try.ntmps30
  go_wp2_with fail
  refine hm.mono ?_
  rintro o9 w1 ⟨rfl, hw⟩
  subst hw
  clear hm
  go_wp2_with fail
  generalize (w1.alloc o) = w0 at *
  obtain ⟨r, hr⟩ : ∃ r, r = w1.heap.size := ⟨_, rfl⟩
  rw [← hr] at hrg ⊢
  have hlt2 : w1.heap.size ≤ r := by omega
  clear hro hlt hr q1 q2
  have hgw : g < w1.heap.size := HN.out.blk.lt
  go_loopw [14] (fun _ wr => FgI w1 b r n p N R wr) (fun _ wr => leftN wr b r)
  case atStart => exact ⟨N, hex0, hrg, fun x y => Or.inl rfl⟩
  case round =>
    obtain ⟨N', hex, hrg1, hN'⟩ := FgI.out hrel
    clear hrg hex0
    rcases hrg1.next 0 with ⟨hrun, hend⟩ | ⟨key, l, val, w2, hkey, hfk, hrun, hrg2, hlv, hs2, ho2, ht2, hp2, hbk, hent⟩
    · go_wp2_with fail
      go_ret
      have hz := forget_nb HN.out p hex hrg1.map hN' hend
      exact ⟨rfl, hz, BelF.exb hex HN.out.lo.2 HN.out.map.lt HN.out.zz.2.1.2⟩
    · obtain ⟨ka, kc, rfl, hF⟩ := fL_some hfk
      clear hfk
      have hex2 : Ex b w1 w2 := ⟨ho2.trans hex.os, ht2.trans hex.tape, hp2.trans hex.output, by rw [hs2]; exact hex.size, fun k hk hkb => (hbk k (by omega)).trans (hex.block k hk hkb)⟩
      have hen2 := hent w2 rfl rfl
      have hr2 := hrun
      unfold lkV at hr2 hen2
      have hba := below_alloc w2 (.cells #[.int .i64 ka, .int .i64 kc] 33)
      have hlk3 := At.new 33 w2 #[.int .i64 ka, .int .i64 kc]
      have hk3 := hrg2.kept (hba.block b hrg2.lt.1) (hba.block r hrg2.lt.2.1)
      have hex3 := hex2.trans (Ex.of_below (g := b) hba)
      have hnet3 := HN.out.blk.ex hex3 (Ne.symm hne)
      have hgxb : w2.heap.size ≠ b := Nat.ne_of_gt hrg2.lt.1
      obtain ⟨a0, a1⟩ := hlk3.two
      obtain ⟨LN, hLN⟩ : ∃ LN, LN = leftN wr b r := ⟨_, rfl⟩
      have hlv3 : leftN (w2.alloc (.cells #[.int .i64 ka, .int .i64 kc] 33)) b r < LN := by rw [hk3.2, hLN]; exact hlv
      have HLN : Hid (LN = leftN wr b r) := hLN
      have hrg3 := hk3.1
      clear hLN hrun hent hbk hs2 ho2 ht2 hp2 hlv hrg1 hex hrel hex2 hrg2 hba hk3 q0
      by_cases hpl : ka = p ∨ kc = p
      · have hup : ∀ x y, upN N' ka kc [] x y = N x y ∨ (upN N' ka kc [] x y = [] ∧ (x = p ∨ y = p)) := by
          intro x y
          by_cases hxy : x = ka ∧ y = kc
          · right
            refine ⟨if_pos hxy, ?_⟩
            rw [hxy.1, hxy.2]
            exact hpl
          · rw [show upN N' ka kc [] x y = N' x y from if_neg hxy]
            exact hN' x y
        by_cases h1 : ka = p
        · have e1 : (ka == p) = true := by simpa using h1
          clear hpl h1
          go_wp2_with fail
          clear a0 a1 hr2 hen2
          generalize (w2.alloc (.cells #[.int .i64 ka, .int .i64 kc] 33)) = w3 at *
          generalize w2.heap.size = gx at *
          have hS3 : Bl w3 w3.drew := (Below.refl _ _).drew
          refine wp_region_det [0, 1, 2, 3, 4] (fun W => At 68 W g #[.map (some b), .int .u64 side, .int .i64 lost] ∧ At 33 W gx #[.int .i64 ka, .int .i64 kc]) (Bl w3) (by kernel_rfl) hS3 ?_
          refine wpDet_take ?vF0 (Bl.stays w3) (fun W h => ⟨hnet3.below h, hlk3.below h⟩) (i := 0) rfl (by kernel_rfl) (by kernel_rfl) (by kernel_rfl) (by kernel_rfl) (fun _ _ _ h => h) (Gives.value (by rfl) ?yF0) ?rF0
          case yF0 => (intro w' hSw; (try dsimp only at hSw); go_simp; try with_reducible rfl)
          (try simp only [Act.put, List.getElem_toArray, List.getElem_cons_zero, List.getElem_cons_succ, List.setIfInBounds_toArray, List.set_cons_zero, List.set_cons_succ])
          refine wpDet_take ?vF1 (Bl.stays w3) (fun W h => ⟨hnet3.below h, hlk3.below h⟩) (i := 1) rfl (by kernel_rfl) (by kernel_rfl) (by kernel_rfl) (by kernel_rfl) (fun _ _ _ h => h) (Gives.value (by rfl) ?yF1) ?rF1
          case yF1 => (intro w' hSw; (try dsimp only at hSw); go_simp; try with_reducible rfl)
          (try simp only [Act.put, List.getElem_toArray, List.getElem_cons_zero, List.getElem_cons_succ, List.setIfInBounds_toArray, List.set_cons_zero, List.set_cons_succ])
          refine wpDet_take ?vF2 (Bl.stays w3) (fun W h => ⟨hnet3.below h, hlk3.below h⟩) (i := 2) rfl (by kernel_rfl) (by kernel_rfl) (by kernel_rfl) (by kernel_rfl) (fun _ _ _ h => h) (Gives.value (by rfl) ?yF2) ?rF2
          case yF2 => (intro w' hSw; (try dsimp only at hSw); go_simp; try with_reducible rfl)
          (try simp only [Act.put, List.getElem_toArray, List.getElem_cons_zero, List.getElem_cons_succ, List.setIfInBounds_toArray, List.set_cons_zero, List.set_cons_succ])
          refine wpDet_take ?vF3 (Bl.stays w3) (fun W h => ⟨hnet3.below h, hlk3.below h⟩) (i := 3) rfl (by kernel_rfl) (by kernel_rfl) (by kernel_rfl) (by kernel_rfl) (fun _ _ _ h => h) (Gives.value (by rfl) ?yF3) ?rF3
          case yF3 => (intro w' hSw; have hz := hSw.1.cell 0; (try dsimp only at hSw); go_simp; try with_reducible rfl)
          (try simp only [Act.put, List.getElem_toArray, List.getElem_cons_zero, List.getElem_cons_succ, List.setIfInBounds_toArray, List.set_cons_zero, List.set_cons_succ])
          refine wpDet_take _ (Bl.stays w3) (fun W h => ⟨hnet3.below h, hlk3.below h⟩) (i := 4) rfl (by kernel_rfl) (by kernel_rfl) (by kernel_rfl) (by kernel_rfl) (fun _ _ _ h => h) (Gives.of_yields (yieldsIf_load_mid (by rfl) _ _ rfl _ _ rfl _ _ (fun W h => At.rangeB h.2 (Below.refl _ _)) Try.underlying33 rfl sizeLk)) ?_
          (try simp only [Act.put, List.getElem_toArray, List.getElem_cons_zero, List.getElem_cons_succ, List.setIfInBounds_toArray, List.set_cons_zero, List.set_cons_succ])
          refine wpDet_ready (rs := [5]) (by kernel_rfl) (by simp) (AllDet.cons rfl (fun V hV K hK => ?_) AllDet.nil)
          rw [if_pos (by rfl)]
          have hVb := Bl.out' hV
          have hrgV := (hrg3.kept (hVb.block b hrg3.lt.1) (hVb.block r hrg3.lt.2.1)).1
          have hlvV := (hrg3.kept (hVb.block b hrg3.lt.1) (hVb.block r hrg3.lt.2.1)).2
          obtain ⟨o2, hrun, hfin⟩ := hrgV.del (Keyed.of_law linkLaw) mapT 0 hkey
          refine wp_del (.tmp 31) (.tmp 32) 66 33 rfl (.map (some b)) (lkV ka kc) rfl rfl (.tuple #[]) (setBlock V b o2) hrun ?_
          have hgo := hfin (fL fun x y => nv (upN N' ka kc [] x y) (R x y)) (by rw [fL_key, upN_same]; rfl) (fun v hv => fL_ne (fun x y hxy => by rw [show upN N' ka kc [] x y = N' x y from if_neg hxy]) v hv)
          have hexV := (hex3.trans (Ex.of_below hVb)).trans (Ex.setB V b o2)
          have hnz := (hnet3.below hVb).ex (Ex.setB V b o2) (Ne.symm hne)
          have hlz := (hlk3.below hVb).ex (Ex.setB V b o2) hgxb
          have hlv4 : leftN (setBlock V b o2) b r < LN := by have := hgo.2; omega
          have hrg4 := hgo.1.mono (D' := Dpl p) (fun v hv => hv.1.elim id (fun e => absurd e hv.2))
          refine hK.out (fun W => Ex b w1 W ∧ RangeIs Try.prog 33 W b r n (fL fun x y => nv (upN N' ka kc [] x y) (R x y)) (Dpl p) ∧ leftN W b r < LN ∧ At 68 W g #[.map (some b), .int .u64 side, .int .i64 lost] ∧ At 33 W gx #[.int .i64 ka, .int .i64 kc]) _ _ (fun W W' h hb => ⟨h.1.trans (Ex.of_below hb), (h.2.1.kept (hb.block b h.2.1.lt.1) (hb.block r h.2.1.lt.2.1)).1, by rw [(h.2.1.kept (hb.block b h.2.1.lt.1) (hb.block r h.2.1.lt.2.1)).2]; exact h.2.2.1, h.2.2.2.1.below hb, h.2.2.2.2.below hb⟩) (fun _ W h => ⟨h.2.2.2.1, h.2.2.2.2⟩) ⟨hexV, hrg4, hlv4, hnz, hlz⟩ ?_
          clear hK K hV hVb hrgV hlvV hrun hfin hgo hexV hnz hlz hlv4 hrg4
          (try simp only [Act.put, List.getElem_toArray, List.getElem_cons_zero, List.getElem_cons_succ, List.setIfInBounds_toArray, List.set_cons_zero, List.set_cons_succ])
          refine wpDet_done (by kernel_rfl) (fun W1 hW1 => ?_) _
          obtain ⟨hex5, hrg5, hlv5, _, _⟩ := hW1
          go_wp2_with fail
          go_roundw
          case rel => exact ⟨upN N' ka kc [], hex5, hrg5, hup⟩
          case measure => rw [← HLN.out]; exact hlv5
        · have e1 : (ka == p) = false := by simpa using h1
          have e2 : (kc == p) = true := by simpa using hpl.resolve_left h1
          clear hpl h1
          go_wp2_with fail
          clear a0 a1 hr2 hen2
          generalize (w2.alloc (.cells #[.int .i64 ka, .int .i64 kc] 33)) = w3 at *
          generalize w2.heap.size = gx at *
          have hS3 : Bl w3 w3.drew := (Below.refl _ _).drew
          refine wp_region_det [0, 1, 2, 3, 4] (fun W => At 68 W g #[.map (some b), .int .u64 side, .int .i64 lost] ∧ At 33 W gx #[.int .i64 ka, .int .i64 kc]) (Bl w3) (by kernel_rfl) hS3 ?_
          refine wpDet_take ?vG0 (Bl.stays w3) (fun W h => ⟨hnet3.below h, hlk3.below h⟩) (i := 0) rfl (by kernel_rfl) (by kernel_rfl) (by kernel_rfl) (by kernel_rfl) (fun _ _ _ h => h) (Gives.value (by rfl) ?yG0) ?rG0
          case yG0 => (intro w' hSw; (try dsimp only at hSw); go_simp; try with_reducible rfl)
          (try simp only [Act.put, List.getElem_toArray, List.getElem_cons_zero, List.getElem_cons_succ, List.setIfInBounds_toArray, List.set_cons_zero, List.set_cons_succ])
          refine wpDet_take ?vG1 (Bl.stays w3) (fun W h => ⟨hnet3.below h, hlk3.below h⟩) (i := 1) rfl (by kernel_rfl) (by kernel_rfl) (by kernel_rfl) (by kernel_rfl) (fun _ _ _ h => h) (Gives.value (by rfl) ?yG1) ?rG1
          case yG1 => (intro w' hSw; (try dsimp only at hSw); go_simp; try with_reducible rfl)
          (try simp only [Act.put, List.getElem_toArray, List.getElem_cons_zero, List.getElem_cons_succ, List.setIfInBounds_toArray, List.set_cons_zero, List.set_cons_succ])
          refine wpDet_take ?vG2 (Bl.stays w3) (fun W h => ⟨hnet3.below h, hlk3.below h⟩) (i := 2) rfl (by kernel_rfl) (by kernel_rfl) (by kernel_rfl) (by kernel_rfl) (fun _ _ _ h => h) (Gives.value (by rfl) ?yG2) ?rG2
          case yG2 => (intro w' hSw; (try dsimp only at hSw); go_simp; try with_reducible rfl)
          (try simp only [Act.put, List.getElem_toArray, List.getElem_cons_zero, List.getElem_cons_succ, List.setIfInBounds_toArray, List.set_cons_zero, List.set_cons_succ])
          refine wpDet_take ?vG3 (Bl.stays w3) (fun W h => ⟨hnet3.below h, hlk3.below h⟩) (i := 3) rfl (by kernel_rfl) (by kernel_rfl) (by kernel_rfl) (by kernel_rfl) (fun _ _ _ h => h) (Gives.value (by rfl) ?yG3) ?rG3
          case yG3 => (intro w' hSw; have hz := hSw.1.cell 0; (try dsimp only at hSw); go_simp; try with_reducible rfl)
          (try simp only [Act.put, List.getElem_toArray, List.getElem_cons_zero, List.getElem_cons_succ, List.setIfInBounds_toArray, List.set_cons_zero, List.set_cons_succ])
          refine wpDet_take _ (Bl.stays w3) (fun W h => ⟨hnet3.below h, hlk3.below h⟩) (i := 4) rfl (by kernel_rfl) (by kernel_rfl) (by kernel_rfl) (by kernel_rfl) (fun _ _ _ h => h) (Gives.of_yields (yieldsIf_load_mid (by rfl) _ _ rfl _ _ rfl _ _ (fun W h => At.rangeB h.2 (Below.refl _ _)) Try.underlying33 rfl sizeLk)) ?_
          (try simp only [Act.put, List.getElem_toArray, List.getElem_cons_zero, List.getElem_cons_succ, List.setIfInBounds_toArray, List.set_cons_zero, List.set_cons_succ])
          refine wpDet_ready (rs := [5]) (by kernel_rfl) (by simp) (AllDet.cons rfl (fun V hV K hK => ?_) AllDet.nil)
          rw [if_pos (by rfl)]
          have hVb := Bl.out' hV
          have hrgV := (hrg3.kept (hVb.block b hrg3.lt.1) (hVb.block r hrg3.lt.2.1)).1
          have hlvV := (hrg3.kept (hVb.block b hrg3.lt.1) (hVb.block r hrg3.lt.2.1)).2
          obtain ⟨o2, hrun, hfin⟩ := hrgV.del (Keyed.of_law linkLaw) mapT 0 hkey
          refine wp_del (.tmp 31) (.tmp 32) 66 33 rfl (.map (some b)) (lkV ka kc) rfl rfl (.tuple #[]) (setBlock V b o2) hrun ?_
          have hgo := hfin (fL fun x y => nv (upN N' ka kc [] x y) (R x y)) (by rw [fL_key, upN_same]; rfl) (fun v hv => fL_ne (fun x y hxy => by rw [show upN N' ka kc [] x y = N' x y from if_neg hxy]) v hv)
          have hexV := (hex3.trans (Ex.of_below hVb)).trans (Ex.setB V b o2)
          have hnz := (hnet3.below hVb).ex (Ex.setB V b o2) (Ne.symm hne)
          have hlz := (hlk3.below hVb).ex (Ex.setB V b o2) hgxb
          have hlv4 : leftN (setBlock V b o2) b r < LN := by have := hgo.2; omega
          have hrg4 := hgo.1.mono (D' := Dpl p) (fun v hv => hv.1.elim id (fun e => absurd e hv.2))
          refine hK.out (fun W => Ex b w1 W ∧ RangeIs Try.prog 33 W b r n (fL fun x y => nv (upN N' ka kc [] x y) (R x y)) (Dpl p) ∧ leftN W b r < LN ∧ At 68 W g #[.map (some b), .int .u64 side, .int .i64 lost] ∧ At 33 W gx #[.int .i64 ka, .int .i64 kc]) _ _ (fun W W' h hb => ⟨h.1.trans (Ex.of_below hb), (h.2.1.kept (hb.block b h.2.1.lt.1) (hb.block r h.2.1.lt.2.1)).1, by rw [(h.2.1.kept (hb.block b h.2.1.lt.1) (hb.block r h.2.1.lt.2.1)).2]; exact h.2.2.1, h.2.2.2.1.below hb, h.2.2.2.2.below hb⟩) (fun _ W h => ⟨h.2.2.2.1, h.2.2.2.2⟩) ⟨hexV, hrg4, hlv4, hnz, hlz⟩ ?_
          clear hK K hV hVb hrgV hlvV hrun hfin hgo hexV hnz hlz hlv4 hrg4
          (try simp only [Act.put, List.getElem_toArray, List.getElem_cons_zero, List.getElem_cons_succ, List.setIfInBounds_toArray, List.set_cons_zero, List.set_cons_succ])
          refine wpDet_done (by kernel_rfl) (fun W1 hW1 => ?_) _
          obtain ⟨hex5, hrg5, hlv5, _, _⟩ := hW1
          go_wp2_with fail
          go_roundw
          case rel => exact ⟨upN N' ka kc [], hex5, hrg5, hup⟩
          case measure => rw [← HLN.out]; exact hlv5
      · have e1 : (ka == p) = false := by simpa using fun e => hpl (Or.inl e)
        have e2 : (kc == p) = false := by simpa using fun e => hpl (Or.inr e)
        have hrg4 := hrg3.mono (D' := Dpl p) (fun v hv => hv.elim id (fun e => ⟨ka, kc, e, hpl⟩))
        clear hpl hrg3
        go_wp2_with fail
        go_roundw
        case rel => exact ⟨N', hex3, hrg4, hN'⟩
        case measure => rw [← HLN.out]; exact hlv3

end Go.Proofs.Ytmnipfdcbmamnaa.M
