/-
  Own text: the contract of the reference's Cut.
-/
import Derived.Test.YtigojnpjpagfjaaDoorYOwn
namespace Go.Proofs.YtigojnpjpagfjaaDoor.M
open Go.ChangeShapes Go.WideShapes Go.ChangeAt Go.RowKit

theorem RdM.back2 {w : World} {b o n c k : Nat} {ms : List Mb} (h : RdM w (some ⟨b, o, none⟩) n c ms) (h0 : 0 < n) (hk : k ≤ n) : RdM w (some ⟨b, o + k * 3, none⟩) (n - k) (c - k) (ms.drop k) := by
  obtain ⟨b', o', e', hc⟩ := h.flat h0
  cases e'
  have hl := h.len
  have hcp := h.cap
  refine RdM.of_flat (by rw [List.length_drop]; omega) (by omega) fun j hj => ?_
  rw [Nat.add_assoc, hc (k * 3 + j) (by omega)]
  have e : j = j / 3 * 3 + j % 3 := by omega
  have hm : j % 3 < 3 := Nat.mod_lt _ (by decide)
  rw [show k * 3 + j = (k + j / 3) * 3 + j % 3 by omega]
  conv => rhs; rw [e]
  refine congrArg some (cellAt_shift ?_ hm)
  rw [List.getD_eq_getElem?_getD, List.getD_eq_getElem?_getD, List.getElem?_drop]

/-- How long a slice is. -/
def lenV : Value → Nat
  | .slice _ n _ => n
  | _ => 0

/-- Who stays. -/
def kpM (node site : Int) (m : Mb) : Bool := !(m.n == node) && !(m.s == site)

set_option maxRecDepth 20000 in
set_option maxHeartbeats 2000000 in
theorem rCut_any (e : Int) (p : Option Addr) (n c : Nat) (ms : List Mb) (node site : Int) (w : World) (hr : RdM w p n c ms) (hn : n ≤ 5864062014805) :
    Calls Tryd.prog 42 #[.agg #[.int .i64 e, .slice p n c], .int .i64 node, .int .i64 site] w fun r w' => ∃ v, r = .returned v ∧ Told w.heap.size w' v (rcutR (kpM node site) e ms) ∧ Below w.heap.size w w' := by
  have hF := Gr.new1 w e p n c
  have hb0 : Below w.heap.size w ((w.alloc (.cells #[.int .i64 e, .slice p n c] 28)).alloc (.cells #[.int .i64 0, .slice none 0 0] 28)) := ((Below.refl _ _).alloc (Nat.le_refl _) _).alloc (by simp) _
  have hl := hr.len
  have hr0 := hr.below hb0
  have hC := rCheck_any e p n c ms _ hr0 hn
  unfold chkV at hC
  obtain ⟨i0, hi0, hz0, hz1, hz2⟩ := info_parts infoM
  generalize hw : w.heap.size = b at *
  go_enter Tryd.func42, Tryd.ntmps42
  go_wp2_with fail
  generalize ((w.alloc (.cells #[.int .i64 e, .slice p n c] 28)).alloc (.cells #[.int .i64 0, .slice none 0 0] 28)) = w0 at *
  refine hC.mono ?_
  rintro r w1 ⟨rfl, hb1⟩
  have hlt0 := hF.lt
  have hF1 := hF.below hb1
  have hB1 := hb0.trans (hb1.mono (by omega))
  have hr1 := hr0.below hb1
  clear hC
  cases hk : chk e ms with
  | false =>
    have HR : Hid (rcutR (kpM node site) e ms = .error 80) := by unfold Hid rcutR; rw [hk]; rfl
    have e0 := hF1.put0 (.int .i64 0) (.slice none 0 0)
    have e1 := hF1.put1 (.int .i64 0) (.slice none 0 0)
    have hbb := Gr.putB hB1 (Nat.le_succ b) (.int .i64 0) (.slice none 0 0)
    obtain ⟨a0, a1, b0, b1, f0, f1, lt, br⟩ := hF1
    clear hF hr hr0 hb0 hb1 hk hr1
    simp only [Bool.false_eq_true, if_false]
    go_wp2_with fail
    exact bodyPost_ret (results_chain (p := 6) (u := 7) rfl _ _ (b + 1) _ _ rfl e0 e1) rfl ⟨_, rfl, by rw [HR.out]; rfl, hbb⟩
  | true =>
    obtain ⟨he1, he2, hn0, hn6⟩ := chk_parts hk
    have HR : Hid (rcutR (kpM node site) e ms = if e = 1099511627776 then .error 5 else if (strip (ms.filter (kpM node site))).length = ms.length then .error 81 else if (strip (ms.filter (kpM node site))).length = 0 then .error 83 else .ok (e + 1, strip (ms.filter (kpM node site)))) := by unfold Hid rcutR; rw [hk]; rfl
    have hk1 := hF1
    obtain ⟨a0, a1, b0, b1, f0, f1, lt, br⟩ := hF1
    clear hF hr hr0 hb0 hb1 hk
    simp only [if_true]
    by_cases h40 : e = 1099511627776
    · have HR2 : Hid (rcutR (kpM node site) e ms = .error 5) := by unfold Hid; rw [HR.out, if_pos h40]
      have e0 := hk1.put0 (.int .i64 0) (.slice none 0 0)
      have e1 := hk1.put1 (.int .i64 0) (.slice none 0 0)
      have hbb := Gr.putB hB1 (Nat.le_succ b) (.int .i64 0) (.slice none 0 0)
      have h40b : (e == 1099511627776) = true := by simp [h40]
      clear HR
      go_wp2_with fail
      exact bodyPost_ret (results_chain (p := 6) (u := 7) rfl _ _ (b + 1) _ _ rfl e0 e1) rfl ⟨_, rfl, by rw [HR2.out]; rfl, hbb⟩
    · have HR2 : Hid (rcutR (kpM node site) e ms = if (strip (ms.filter (kpM node site))).length = ms.length then .error 81 else if (strip (ms.filter (kpM node site))).length = 0 then .error 83 else .ok (e + 1, strip (ms.filter (kpM node site)))) := by unfold Hid; rw [HR.out, if_neg h40]
      have h40b : (e == 1099511627776) = false := by simp [h40]
      clear HR
      go_wp2_with fail
      go_loopw [8, 23] (fun v i wr => ∃ k : Nat, k ≤ n ∧ i = .int .i64 k ∧ OwM wr w1.heap.size v ((ms.take k).filter (kpM node site)) ∧ Below w1.heap.size w1 wr) (fun _ i _ => n - (intOf i).toNat)
      case atStart => exact ⟨0, Nat.zero_le _, rfl, OwM.nil _ _, Below.refl _ _⟩
      case round =>
        obtain ⟨k, hkn, rfl, hO, hb⟩ := hrel
        by_cases h : k < n
        · obtain ⟨g1, o1, rfl, c1⟩ := (hr1.below hb).cells (by omega)
          obtain ⟨x1, x2, x3⟩ := c1 k h
          have hk1' : (k : Int) < (n : Int) := by omega
          have ht := take_snoc_mb (l := ms) (k := k) (by omega)
          have HT : Hid ((ms.take (k + 1)).filter (kpM node site) = (ms.take k).filter (kpM node site) ++ (if kpM node site (ms.getD k .z0) = true then [ms.getD k .z0] else [])) := by
            unfold Hid
            rw [ht, List.filter_append]
            congr 1
            cases hh : kpM node site (ms.getD k .z0) with
            | true => rw [List.filter_cons_of_pos hh]; rfl
            | false => rw [List.filter_cons_of_neg (by rw [hh]; decide)]; rfl
          have hML : ((ms.take k).filter (kpM node site)).length ≤ n := Nat.le_trans (List.length_filter_le _ _) (by rw [List.length_take]; omega)
          clear c1 ht
          generalize ms.getD k .z0 = f at *
          obtain ⟨fn, fs, ff⟩ := f
          dsimp only at x1 x2 x3
          generalize (ms.take k).filter (kpM node site) = M at *
          have hba : Below w1.heap.size w1 (wr.alloc (.cells #[.int .i64 fn, .int .i64 fs, .bool ff] 45)) := hb.alloc hb.size _
          have hOa := hO.below ((Below.refl wr.heap.size wr).alloc (Nat.le_refl _) (.cells #[.int .i64 fn, .int .i64 fs, .bool ff] 45))
          cases hq1 : (fn == node) with
          | true =>
            have HT2 : Hid ((ms.take (k + 1)).filter (kpM node site) = M) := by unfold Hid; rw [HT.out]; unfold kpM; rw [hq1]; simp
            have hn1 : (fn != node) = false := by simp [bne, hq1]
            clear HT
            go_wp2_with fail
            go_roundw
            case rel => exact ⟨k + 1, by omega, by go_num, by rw [HT2.out]; exact hOa, hba⟩
            case measure => simp [intOf]; omega
          | false =>
            have hn1 : (fn != node) = true := by simp [bne, hq1]
            cases hq2 : (fs == site) with
            | true =>
              have HT2 : Hid ((ms.take (k + 1)).filter (kpM node site) = M) := by unfold Hid; rw [HT.out]; unfold kpM; rw [hq1, hq2]; simp
              have hn2 : (fs != site) = false := by simp [bne, hq2]
              clear HT
              go_wp2_with fail
              go_roundw
              case rel => exact ⟨k + 1, by omega, by go_num, by rw [HT2.out]; exact hOa, hba⟩
              case measure => simp [intOf]; omega
            | false =>
              have HT2 : Hid ((ms.take (k + 1)).filter (kpM node site) = M ++ [⟨fn, fs, ff⟩]) := by unfold Hid; rw [HT.out]; unfold kpM; rw [hq1, hq2]; simp
              have hn2 : (fs != site) = true := by simp [bne, hq2]
              clear HT
              have hb2 := (Below.refl (wr.alloc (.cells #[.int .i64 fn, .int .i64 fs, .bool ff] 45)).heap.size (wr.alloc (.cells #[.int .i64 fn, .int .i64 fs, .bool ff] 45))).alloc (Nat.le_refl _) (.cells #[.int .i64 fn, .int .i64 fs, .bool ff] 45)
              have hOb := hOa.below hb2
              have hbb := hba.trans (hb2.mono hba.size)
              have hsz : w1.heap.size ≤ ((wr.alloc (.cells #[.int .i64 fn, .int .i64 fs, .bool ff] 45)).alloc (.cells #[.int .i64 fn, .int .i64 fs, .bool ff] 45)).heap.size := hbb.size
              go_wp2_with (at_builtin; refine wpList_appOwM _ rfl (.tmp 37) (.tmp 39) 26 rfl i0 (.agg #[.int .i64 0, .int .i64 0, .bool false]) Tryd.underlying26 hi0 hz0 hz1 hz2 rfl w1.heap.size _ M rfl hOb (wr.heap.size + 1) 1 ⟨fn, fs, ff⟩ rfl (by simp) (by simp) (by simp) (by omega) hsz ?_)
              intro v' w' h1 h2
              go_wp2_with fail
              go_roundw
              case rel => exact ⟨k + 1, by omega, by go_num, by rw [HT2.out]; exact h1, hbb.trans h2⟩
              case measure => simp [intOf]; omega
        · obtain rfl : k = n := by omega
          have hO2 := hO
          rw [List.take_of_length_le (by omega)] at hO2
          obtain ⟨q0, c0, rfl, hq0, hr2⟩ := hO2.rd
          have hFl : (ms.filter (kpM node site)).length ≤ ms.length := List.length_filter_le _ _
          generalize ms.filter (kpM node site) = F at *
          have hki : ¬ (k : Int) < (k : Int) := by omega
          clear hO hO2
          have hBr := hB1.trans (hb.mono (by omega))
          have hkr := hk1.below hb
          have hsz := hb.size
          clear a0 a1 b0 b1 f0 f1 hk1 hr1 hb hB1
          obtain ⟨w5, hw5⟩ : ∃ x, x = wr := ⟨wr, rfl⟩
          rw [← hw5] at hr2 hBr hkr hsz ⊢
          clear hw5
          go_wp2_with fail
          go_loopw [8] (fun v wr => ∃ q c R, v = .slice q R.length c ∧ R.length ≤ F.length ∧ (∀ a, q = some a → w1.heap.size ≤ a.block) ∧ RdM w5 q R.length c R ∧ Hid (strip F = strip R) ∧ wr = w5) (fun v _ => lenV v)
          case atStart => exact ⟨q0, c0, F, rfl, Nat.le_refl _, hq0, hr2, rfl, rfl⟩
          case round =>
            clear hq0 hr2
            obtain ⟨q, cq, R, rfl, hRl, hq, hrR, HS, hwr⟩ := hrel
            rw [hwr]
            clear hwr
            have hkr' := hkr
            obtain ⟨a0, a1, b0, b1, f0, f1, lt5, br5⟩ := hkr
            have hcap := hrR.cap
            cases R with
            | nil =>
              have HS2 : Hid (rcutR (kpM node site) e ms = .error 83) := by unfold Hid; rw [HR2.out, HS.out]; unfold strip; rw [if_neg (by simp only [List.length_nil]; omega)]; rfl
              have hzz : ((0 : Int) == (k : Int)) = false := by simp; omega
              have e0 := hkr'.put0 (.int .i64 0) (.slice none 0 0)
              have e1 := hkr'.put1 (.int .i64 0) (.slice none 0 0)
              have hbb := Gr.putB hBr (Nat.le_succ b) (.int .i64 0) (.slice none 0 0)
              simp only [List.length_nil]
              clear HR2 HS
              go_wp2_with fail
              exact bodyPost_ret (results_chain (p := 6) (u := 7) rfl _ _ (b + 1) _ _ rfl e0 e1) rfl ⟨_, rfl, by rw [HS2.out]; rfl, hbb⟩
            | cons m R =>
              have hLl : (m :: R).length = R.length + 1 := rfl
              obtain ⟨gq, oq, rfl, hcq⟩ := hrR.cells (by simp)
              have hf := (hcq 0 (by simp)).2.2
              rw [Nat.zero_mul, Nat.add_zero] at hf
              have hgd : (m :: R).getD 0 .z0 = m := rfl
              rw [hgd] at hf
              have hgq := hq _ rfl
              dsimp only at hgq
              have hpos : (0 : Int) < (R.length : Int) + 1 := by omega
              simp only [hLl] at hcap hrR hRl ⊢
              have hpos2 : ((R.length + 1 : Nat) : Int) = (R.length : Int) + 1 := by omega
              have HL : Hid (R.length ≤ F.length) := by unfold Hid; omega
              cases hmf : m.f with
              | true =>
                have HS2 : Hid (strip F = strip R) := by unfold Hid; rw [HS.out]; conv => lhs; unfold strip; rw [if_pos hmf]
                rw [hmf] at hf
                by_cases hc1 : cq = 1
                · subst hc1
                  obtain rfl : R = [] := List.length_eq_zero_iff.1 (by omega)
                  simp only [List.length_nil]
                  clear HR2 HS hcq
                  go_wp2_with fail
                  go_roundw
                  case rel => exact ⟨some ⟨gq, oq, none⟩, 0, [], by first | rfl | simp, Nat.zero_le _, hq, ⟨rfl, Nat.le_refl _, fun _ => rfl, fun h => absurd h (Nat.lt_irrefl _)⟩, HS2, by first | rfl | trivial⟩
                  case measure => simp [lenV]
                · have hrB := hrR.back2 (k := 1) (by omega) (by omega)
                  have hd1 : (m :: R).drop 1 = R := rfl
                  rw [hd1, Nat.one_mul, Nat.add_sub_cancel] at hrB
                  clear HR2 HS hcq
                  go_wp2_with fail
                  go_roundw
                  case rel => exact ⟨some ⟨gq, oq + 3, none⟩, cq - 1, R, by first | rfl | simp, HL.out, (fun a ha => by cases ha; exact hgq), hrB, HS2, by first | rfl | trivial⟩
                  case measure => simp [lenV]
              | false =>
                have hst : strip F = m :: R := by rw [HS.out]; unfold strip; rw [hmf]; rfl
                rw [hmf] at hf
                by_cases hlk : R.length + 1 = k
                · have HS2 : Hid (rcutR (kpM node site) e ms = .error 81) := by unfold Hid; rw [HR2.out, hst, if_pos (by rw [hLl]; omega)]
                  have e0 := hkr'.put0 (.int .i64 0) (.slice none 0 0)
                  have e1 := hkr'.put1 (.int .i64 0) (.slice none 0 0)
                  have hbb := Gr.putB hBr (Nat.le_succ b) (.int .i64 0) (.slice none 0 0)
                  have hlk2 : ((R.length : Int) + 1 == (k : Int)) = true := by simp; omega
                  clear HR2 HS hst hcq
                  go_wp2_with fail
                  exact bodyPost_ret (results_chain (p := 6) (u := 7) rfl _ _ (b + 1) _ _ rfl e0 e1) rfl ⟨_, rfl, by rw [HS2.out]; rfl, hbb⟩
                · have HS2 : Hid (rcutR (kpM node site) e ms = .ok (e + 1, m :: R)) := by unfold Hid; rw [HR2.out, hst, if_neg (by rw [hLl]; omega), if_neg (by rw [hLl]; omega)]
                  have hlk2 : ((R.length : Int) + 1 == (k : Int)) = false := by simp; omega
                  have hl0 : ((R.length : Int) + 1 == 0) = false := by simp; omega
                  have hwe : IntKind.i64.wrap (e + 1) = e + 1 := by rw [IntKind.wrap_i64]; omega
                  have p0 := hkr'.put0 (.int .i64 (e + 1)) (.slice (some ⟨gq, oq, none⟩) (R.length + 1) cq)
                  have p1 := hkr'.put1 (.int .i64 (e + 1)) (.slice (some ⟨gq, oq, none⟩) (R.length + 1) cq)
                  have hB6 := Gr.putB hBr (Nat.le_succ b) (.int .i64 (e + 1)) (.slice (some ⟨gq, oq, none⟩) (R.length + 1) cq)
                  have hr6 := hrR.put (b := b + 1) (.int .i64 (e + 1)) (.slice (some ⟨gq, oq, none⟩) (R.length + 1) cq) (fun a ha _ => by cases ha; show gq ≠ b + 1; omega)
                  have hs6 : b ≤ ((w5.setCell ⟨b + 1, 0, none⟩ (.int .i64 (e + 1))).setCell ⟨b + 1, 1, none⟩ (.slice (some ⟨gq, oq, none⟩) (R.length + 1) cq)).heap.size := by simp; omega
                  clear HR2 HS hst hcq
                  go_wp2_with fail
                  generalize ((w5.setCell ⟨b + 1, 0, none⟩ (.int .i64 (e + 1))).setCell ⟨b + 1, 1, none⟩ (.slice (some ⟨gq, oq, none⟩) (R.length + 1) cq)) = V at *
                  have hV : Below V.heap.size V (V.alloc (.cells #[.int .i64 (e + 1), .slice (some ⟨gq, oq, none⟩) (R.length + 1) cq] 28)) := (Below.refl _ _).alloc (Nat.le_refl _) _
                  exact bodyPost_ret (results_chain (p := 6) (u := 7) rfl _ _ (b + 1) _ _ rfl ((hV.cell (p := ⟨b + 1, 0, none⟩) (World.block_lt_of_cell? _ _ p0)).trans p0) ((hV.cell (p := ⟨b + 1, 1, none⟩) (World.block_lt_of_cell? _ _ p1)).trans p1)) rfl ⟨_, rfl, by
                    rw [HS2.out]
                    exact ⟨some ⟨gq, oq, none⟩, cq, rfl, (fun a ha _ => by cases ha; show b ≤ gq; omega), hr6.below hV⟩, hB6.trans (hV.mono hs6)⟩

end Go.Proofs.YtigojnpjpagfjaaDoor.M
