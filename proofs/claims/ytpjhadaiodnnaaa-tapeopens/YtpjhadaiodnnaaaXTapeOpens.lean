/-
  Own text: the walk of the law TapeOpens.
-/
import Derived.Test.YtpjhadaiodnnaaaXH
section
namespace Go.Proofs.Ytpjhadaiodnnaaa.M
open Go.ChangeShapes Go.WideShapes Go.ChangeAt Go.RowKit
set_option linter.unusedSimpArgs false

set_option maxRecDepth 20000 in
set_option maxHeartbeats 8000000 in
theorem walk_TapeOpens (w : World) (p : Option Addr) (n c : Nat) (xa : List Int) (hp : Rd .u8 w p n c xa) (hya : By xa) (q : Option Addr) (m d : Nat) (xb : List Int) (hq : Rd .u8 w q m d xb) (hyb : By xb) :
    Calls Try.prog 3 #[.slice p n c, .slice q m d] w fun e w' => e = .returned (.bool true) ∧ Below w.heap.size w w' := by
  have hAw := awake_any w
  obtain ⟨H, HH⟩ : ∃ z, Hid (z = w.heap.size) := ⟨_, rfl⟩
  have HP : Hid (Rd .u8 w p n c xa) := hp
  have HQ : Hid (Rd .u8 w q m d xb) := hq
  have HYA : Hid (By xa) := hya
  have HYB : Hid (By xb) := hyb
  clear hq hyb hp hya
  go_enter Try.func3, Try.ntmps3
  by_cases hn : (16384 : Int) < (n : Int)
  · go_wp2_with fail
    refine hAw.mono ?_
    rintro e2 w9 ⟨rfl, hb9⟩
    clear hAw
    go_wp2_with fail
    go_ret
    exact ⟨rfl, hb9⟩
  by_cases hm : (16384 : Int) < (m : Int)
  · go_wp2_with fail
    refine hAw.mono ?_
    rintro e2 w9 ⟨rfl, hb9⟩
    clear hAw
    go_wp2_with fail
    go_ret
    exact ⟨rfl, hb9⟩
  clear hAw
  have hxa : xa.length ≤ 16384 := by rw [HP.out.len]; omega
  have hxb : xb.length ≤ 16384 := by rw [HQ.out.len]; omega
  have HM : Hid (Two (agM xa xb) 16384 ∧ Cal (agM xa xb) ∧ (agM xa xb).room = 2097152 ∧ (agM xa xb).keep = [] ∧ (agM xa xb).ok 40000 ∧ Fit (ptM mq0 0 xa).1 20000) := agM_ok hxa hxb HYA.out HYB.out
  have HOK : Hid (∀ j, j < 2 → (agS xa xb j).ok 40000 ∧ (agS xa xb j).down = false ∧ (agS xa xb j).pre ∧ (agS xa xb j).keep = [] ∧ (agS xa xb (j + 1)).keep = [] ∧ ¬ (agS xa xb j).room < (agS xa xb j).used + (if j = 0 then xa else xb).length) := fun j hj => agS_ok hxa hxb HYA.out HYB.out hj
  have HNM : Hid (n ≤ 16384 ∧ m ≤ 16384) := ⟨by omega, by omega⟩
  have hNw := New_D w
  obtain ⟨L, HLL⟩ : ∃ z, Hid (z = w.heap.size) := ⟨_, rfl⟩
  rw [← HLL.out] at hNw
  clear hxa hxb
  go_wp2_with fail
  clear hn hm
  refine hNw.mono ?_
  rintro e2 w4 ⟨g, rfl, ⟨ow4, d4, hD4⟩, hb4⟩
  clear hNw
  have hRn := rnew_any w4 2097152 (by decide) (by decide)
  have HD4 : Hid (DS w4 L 0 g ow4 d4 mq0 ∧ Below L w w4) := ⟨hD4, hb4⟩
  clear hD4 hb4
  go_wp2_with fail
  refine hRn.mono ?_
  rintro e3 w5 ⟨rfl, hR5, hb5⟩
  clear hRn
  obtain ⟨gy, Hgy⟩ : ∃ z, Hid (z = w4.heap.size) := ⟨_, rfl⟩
  rw [← Hgy.out] at hR5 ⊢
  have HBo : Hid (Bo w w5 L g gy ow4 d4 ⟨none, 0, 0⟩ mq0 mq0) :=
    ⟨HD4.out.1.below hb5, ⟨hR5, Rd.empty _ _ _ _ (fun _ => rfl), (fun x e => by cases e)⟩, ⟨HD4.out.1.da.fr gy (by rw [Hgy.out]; exact Nat.le_refl _), by have := HD4.out.1.da.dc.lt; rw [Hgy.out]; omega⟩, by rw [Hgy.out]; exact HD4.out.1.lw, (fun x e => by cases e), HD4.out.2.trans (hb5.mono HD4.out.1.lw)⟩
  clear hR5 hb5 HD4
  obtain ⟨bx, Hbx⟩ : ∃ z, Hid (z = w5.heap.size) := ⟨_, rfl⟩
  have hba := below_alloc w5 (.cells #[.slice p n c, .slice q m d] 22)
  have hAt := At.new 22 w5 #[.slice p n c, .slice q m d]
  rw [← Hbx.out] at hAt
  obtain ⟨w6, Hw6⟩ : ∃ z, Hid (z = w5.alloc (.cells #[.slice p n c, .slice q m d] 22)) := ⟨_, rfl⟩
  rw [← Hw6.out] at hba hAt
  have HAt : Hid (At 22 w6 bx #[.slice p n c, .slice q m d]) := hAt
  have HBo6 : Hid (Bo w w6 L g gy ow4 d4 ⟨none, 0, 0⟩ mq0 mq0) := HBo.out.below hba
  have HFB : Hid (Fgn ow4 g bx ∧ bx ≠ gy) := by
    have h1 := HBo.out.ds.da.dc.lt
    have h2 := HBo.out.rd.rc.lt
    rw [Hbx.out]
    exact ⟨⟨HBo.out.ds.da.fr _ (Nat.le_refl _), by omega⟩, by omega⟩
  have HEach : Hid (∀ j, j < 2 → ∃ pj nj cj, #[Value.slice p n c, .slice q m d][j]? = some (.slice pj nj cj) ∧ Rd .u8 w pj nj cj (if j = 0 then xa else xb) ∧ nj ≤ 16384) := fun j hj => by
    match j, hj with
    | 0, _ => exact ⟨p, n, c, rfl, HP.out, HNM.out.1⟩
    | 1, _ => exact ⟨q, m, d, rfl, HQ.out, HNM.out.2⟩
  clear hba hAt HBo
  go_wp2_with fail
  rw [← Hbx.out, ← Hw6.out]
  go_loopw [36] (fun ix wr => ∃ (j : Nat) (own : Nat → Nat) (dd : Dk) (k : Sl), j ≤ 2 ∧ ix = .int .i64 j ∧ Bo w wr L g gy own dd k (agS xa xb j) (agS xa xb j) ∧ At 22 wr bx #[.slice p n c, .slice q m d] ∧ Fgn own g bx) (fun ix _ => 2 - (intOf ix).toNat)
  case atStart => exact ⟨0, ow4, d4, ⟨none, 0, 0⟩, Nat.zero_le _, rfl, HBo6.out, HAt.out, HFB.out.1⟩
  case round =>
    obtain ⟨j, own, dd, k, hj, rfl, hB, hA, hFb⟩ := hrel
    by_cases hj2 : j < 2
    · have hji : (j : Int) < 2 := by omega
      obtain ⟨pj, nj, cj, hcj, hrj, hnj⟩ := HEach.out j hj2
      obtain ⟨ys, Hys⟩ : ∃ z, Hid (z = if j = 0 then xa else xb) := ⟨_, rfl⟩
      obtain ⟨mj, Hmj⟩ : ∃ z, Hid (z = agS xa xb j) := ⟨_, rfl⟩
      have hok := HOK.out j hj2
      rw [← Hys.out, ← Hmj.out] at hok
      rw [← Hys.out] at hrj
      rw [← Hmj.out] at hB
      have hck : wr.cell? ⟨bx, j, none⟩ = some (.slice pj nj cj) := (hA.cell j).trans hcj
      have hrw : Rd .u8 wr pj nj cj ys := hrj.below' (by rw [← HLL.out]; exact hB.bel)
      have hlow : ∀ x, pj = some x → 0 < nj → x.block < L := fun x e h0 => by rw [HLL.out]; exact hrj.ltb x e h0
      have h1 := hB.app1 ⟨hok.1, hok.2.1⟩ (by decide) j (by omega) pj nj cj ys hrw hlow (by omega)
      have HOKj : Hid (mj.ok 40000 ∧ mj.down = false ∧ mj.pre ∧ mj.keep = [] ∧ (agS xa xb (j + 1)).keep = [] ∧ ¬ mj.room < mj.used + ys.length) := hok
      have HB : Hid (Bo w wr L g gy own dd k mj mj) := hB
      have HA : Hid (At 22 wr bx #[.slice p n c, .slice q m d] ∧ Fgn own g bx) := ⟨hA, hFb⟩
      have HRj : Hid (Rd .u8 w pj nj cj ys ∧ nj ≤ 16384 ∧ ∀ x, pj = some x → 0 < nj → x.block < L) := ⟨hrj, hnj, hlow⟩
      have HNx : Hid (agS xa xb (j + 1) = (ptM mj j ys).1) := by show _ = _; rw [Hmj.out, Hys.out]; exact agS_step hj2
      clear hok hB hA hFb hrw hrj hlow hcj hnj
      obtain ⟨c1, Hc1⟩ : ∃ z, Hid (z = (ptM mj j ys).2) := ⟨_, rfl⟩
      rw [← Hc1.out] at h1
      go_wp2_with fail
      refine h1.mono ?_
      rintro e7 w7 ⟨rfl, ow7, d7, hB7, hw7, hc7⟩
      clear h1 hck
      have HA7 : Hid (At 22 w7 bx #[.slice p n c, .slice q m d] ∧ Fgn ow7 g bx) := ⟨HA.out.1.ch hc7 (fun e => e HA.out.2), HA.out.2.to HA.out.1.lt hw7⟩
      have h2 := hB7.app2 (by rw [← HNx.out]; exact HOKj.out.2.2.2.2.1) HOKj.out.1 (by decide) HOKj.out.2.2.1 HOKj.out.2.1 j (by omega) pj nj cj ys (HRj.out.1.below' (by rw [← HLL.out]; exact hB7.bel)) HRj.out.2.2 (by have := HRj.out.2.1; omega) HOKj.out.2.2.2.2.2
      rw [← Hc1.out] at h2
      clear hB7 hw7 hc7
      go_wp2_with fail
      refine h2.mono ?_
      rintro e8 w8 ⟨rfl, k8, hB8, hc8⟩
      clear h2
      have HB8 : Hid (Bo w w8 L g gy ow7 d7 k8 (agS xa xb (j + 1)) (agS xa xb (j + 1))) := by rw [HNx.out]; exact hB8
      have HA8 : Hid (At 22 w8 bx #[.slice p n c, .slice q m d]) := HA7.out.1.ch hc8 (fun e => HFB.out.2 e)
      clear hB8 hc8
      go_wp2_with fail
      go_roundw
      case rel => exact ⟨j + 1, ow7, d7, k8, by omega, by go_num, HB8.out, HA8.out, HA7.out.2⟩
      case measure => simp [intOf]; omega
    · have hji : ¬ (j : Int) < 2 := by omega
      have e2 : agS xa xb j = agM xa xb := by unfold agS; rw [if_neg (by omega), if_neg (by omega)]
      rw [e2] at hB
      have hO := hB.open1 HM.out.1 HM.out.2.1 HM.out.2.2.2.2.1
      have HPre : Hid ((agM xa xb).pre) := ((pd0_pre _).ptM (by decide) _).ptM (by decide) _
      clear e2 hB hA hFb
      obtain ⟨ma, Hma⟩ : ∃ z, Hid (z = agM xa xb) := ⟨_, rfl⟩
      rw [← Hma.out] at hO HM HPre
      obtain ⟨cz, Hcz⟩ : ∃ z, Hid (z = (opM ma).1) := ⟨_, rfl⟩
      rw [← Hcz.out] at hO
      go_wp2_with fail
      refine hO.mono ?_
      rintro e5 w7 ⟨gt, ow7, rfl, hT7, hR7, hf7, hl7, hb7⟩
      clear hO
      have hO := open2 hT7 hR7 hf7 hl7 hb7 HM.out.1 HM.out.2.1 HM.out.2.2.2.2.1 HPre.out HM.out.2.2.1 HM.out.2.2.2.1
      rw [← Hcz.out] at hO
      clear hT7 hR7 hf7 hl7 hb7
      go_wp2_with fail
      refine hO.mono ?_
      rintro e6 w8 ⟨gx, rfl, hBO⟩
      clear hO
      have HBO : Hid (BoO w w8 L g gt gy gx ow7 (opM ma)) := hBO
      have HNew : Hid ((opM ma).2.1.ok 40040000 ∧ (opM ma).2.1.down = false ∧ (∀ i, i < 2 → By ((opM ma).2.1.f i).told)) := by
        rcases opM_again HM.out.2.1 HM.out.1 HM.out.2.2.1 with e5 | ⟨e0, k1, k2, k3, k4, k5, k6, k7, k8, k9⟩
        · rw [opM_five e5]
          exact ⟨HM.out.2.2.2.2.1.mono (by decide), HM.out.2.1.up, HM.out.1.bys⟩
        · exact ⟨k9 40000 HM.out.2.2.2.2.1, k3.up, k4⟩
      have HTl : Hid (Calls Try.prog 15 #[opT cz gt, opT cz gx] w8 fun e w' => e = .returned (.bool true) ∧ Below w8.heap.size w8 w') := by
        by_cases hcz : cz = 0
        · rw [hcz]
          obtain ⟨k9, p9, c9, hx9⟩ := HBO.out.rx
          rcases opM_again HM.out.2.1 HM.out.1 HM.out.2.2.1 with e5 | ⟨e0, k1, k2, k3, k4, k5, k6, k7, k8, k9⟩
          · rw [← Hcz.out, hcz] at e5; cases e5
          · exact tells_same w8 L 0 g gt gy gx _ _ HBO.out.ts.o p9 c9 hx9.rt (by have := k5.base.1; omega) (by omega) (fun d hd => by have := (getD_all (P := fun d => By d ∧ d.length ≤ 8192) k5.recs d hd).2; omega)
        · have e1 : ∀ x, opT cz x = .pointer none := fun x => by unfold opT; rw [if_neg hcz]
          rw [e1, e1]
          exact tells_nil w8
      have HFa : Hid (∀ W, Below w8.heap.size w8 W → Calls Try.prog 16 #[.pointer (some ⟨g, 0, none⟩), .pointer (some ⟨gy, 0, none⟩)] W fun e w' => e = .returned (.bool true) ∧ Below W.heap.size W w') := fun W hW => by
        have h9 := HBO.out.below hW
        obtain ⟨k9, p9, c9, hx9⟩ := h9.rx
        obtain ⟨d9, pb, nb, cb, pr, cr, vs, Bv, h1, _⟩ := h9.ts
        exact face_same W L 0 g gy ow7 d9 _ k9 40040000 h1 hx9.rd.rc HNew.out.1 (by decide) HNew.out.2.1 HNew.out.2.2
      have HBL : Hid (Below L w w8 ∧ L ≤ w8.heap.size) := ⟨hBO.bel, hBO.ts.o.lw⟩
      clear hBO HBO HNew
      obtain ⟨v1, Hv1⟩ : ∃ z, Hid (z = opT cz gt) := ⟨_, rfl⟩
      obtain ⟨v2, Hv2⟩ : ∃ z, Hid (z = opT cz gx) := ⟨_, rfl⟩
      rw [← Hv1.out, ← Hv2.out] at HTl
      rw [← Hv1.out, ← Hv2.out]
      have hTl := HTl.out
      go_wp2_with fail
      refine hTl.mono ?_
      rintro e7 w9 ⟨rfl, hb9⟩
      clear hTl HTl
      have hFa := HFa.out w9 hb9
      have HB9 : Hid (Below w8.heap.size w8 w9) := hb9
      clear hb9
      go_wp2_with fail
      refine hFa.mono ?_
      rintro e8 w10 ⟨rfl, hb10⟩
      clear hFa HFa
      have HB10 : Hid (Below w8.heap.size w8 w10) := HB9.out.trans (hb10.mono HB9.out.size)
      have hAw := awake_any w10
      clear hb10
      go_wp2_with fail
      refine hAw.mono ?_
      rintro e9 w99 ⟨rfl, hb99⟩
      clear hAw
      have HB99 : Hid (Below L w w99) := HBL.out.1.trans ((HB10.out.trans (hb99.mono HB10.out.size)).mono HBL.out.2)
      clear hb99
      go_wp2_with fail
      go_ret
      exact ⟨rfl, by have h := HB99.out; rw [HLL.out] at h; exact h⟩

end Go.Proofs.Ytpjhadaiodnnaaa.M
end
