/-
  Own text: the walk of the law DiskBegins.
-/
import Derived.Test.YtcgpdaalehgjdaaDCl2
namespace Go.Proofs.Ytcgpdaalehgjdaa.M
open Go.ChangeShapes Go.WideShapes Go.ChangeAt Go.RowKit

/-- A disk over a change of a block that is none of its own; of no keep nothing is asked. -/
theorem DA.apart0 {w w' : World} {B : Nat} {own : Nat → Nat} {a g : Nat} {d : Dk} {m : PD} (h : DA w B own a g d m) {b : Nat} (hc : Ch (fun k => k = b) w w') (hg : b ≠ g) (ho : own b = 0) (hk : m.keep = []) : DA w' B own a g d m := by
  have hkn : d.kn = 0 := by have := h.keep.len; rw [hk] at this; exact this.symm
  exact ⟨h.dc.ch hc (fun e => hg e.symm), h.room, h.down, h.left, h.cl, fun i hi => (h.fm i hi).ch hc (fun k hm e => by
    subst e
    rw [ho] at hm
    exact mark_pos a i hm.symm) (fun _ _ => rfl), h.keep.ch0 hc (fun x e h0 => by omega), h.og, fun x e => ⟨(h.ok x e).1, (h.ok x e).2.1, Nat.lt_of_lt_of_le (h.ok x e).2.2 hc.size⟩, h.bg, fun k hk => h.fr k (Nat.le_trans hc.size hk)⟩

theorem fall_low (m : PD) (keep : List Int) {i : Nat} (hi : i < 8) (h : keepAt keep i < 0) : ((m.fall keep).f i).told = (m.f i).lasts := by
  show (fallN m.f keep 8 i).told = _
  unfold fallN
  rw [if_pos hi]
  show (m.f i).rest _ = _
  unfold PF.rest
  rw [if_pos h]

theorem fall_high (m : PD) (keep : List Int) {i : Nat} (hi : i < 8) (h : ¬ keepAt keep i < 0) : ((m.fall keep).f i).told <+: (m.f i).told := by
  show (fallN m.f keep 8 i).told <+: _
  unfold fallN
  rw [if_pos hi]
  show (m.f i).rest _ <+: _
  unfold PF.rest
  rw [if_neg h]
  exact List.take_prefix _ _

theorem keepAt_none (keep : List Int) {i : Nat} (h : keep.length ≤ i) : keepAt keep i < 0 := by
  unfold keepAt
  rw [if_neg (by omega)]
  decide

theorem keepAt_some (keep : List Int) {i : Nat} (h : i < keep.length) : keepAt keep i = keep.getD i 0 := if_pos h

set_option maxRecDepth 20000 in
set_option maxHeartbeats 8000000 in
theorem walk_DiskBegins (w : World) (p : Option Addr) (n c : Nat) (ls : List Dv) (hl : RdQ w p n c ls) (kq : Option Addr) (kl kc : Nat) (keep : List Int) (hkp : Rd .i64 w kq kl kc keep) (_hkb : ∀ x ∈ keep, (Lit.int .i64 x).wf = true) :
    Calls Try.prog 5 #[.slice p n c, .slice kq kl kc] w fun e w' => e = .returned (.bool true) ∧ Below w.heap.size w w' := by
  have hAw := fun W => awake_any W
  have hb0 : Below w.heap.size w (w.alloc (.cells #[.slice p n c] 22)) := (Below.refl _ _).alloc (Nat.le_refl _) _
  have r0 : (w.alloc (.cells #[.slice p n c] 22)).heap[w.heap.size]? = some (.cells #[.slice p n c] 22) := heap_alloc_new _ _
  have hS := short_any (w.alloc (.cells #[.slice p n c] 22)) _ 1 1 _ (RdQQ.one (cell_row r0 rfl) (hl.below hb0)) (by decide)
  have hl0 := hl.below hb0
  have hkp0 := hkp.below' hb0
  clear r0 hl hkp
  generalize hW0 : (w.alloc (.cells #[.slice p n c] 22)) = w0 at *
  go_enter Try.func5, Try.ntmps5
  go_wp2_with fail
  refine hS.mono ?_
  rintro e w1 ⟨⟨bb, rfl, hbb⟩, hb1⟩
  have hbt := hb0.trans (hb1.mono hb0.size)
  clear hS
  cases bb with
  | false =>
    go_wp2_with fail
    refine (hAw _).mono ?_
    rintro e w2 ⟨rfl, hb2⟩
    go_wp2_with fail
    go_ret
    exact ⟨rfl, hbt.trans (hb2.mono hbt.size)⟩
  | true =>
    obtain ⟨s1, s2, s3⟩ := short_of (hbb rfl) (j := 0) (by simp)
    change ls.length ≤ 150 at s1
    change Small ls at s2
    change bytesN ls ls.length ≤ 16384 at s3
    have hlen := hl0.len
    rw [hlen] at s1 s3
    clear hbb
    by_cases hkl : 100 < kl
    · have hkli : (100 : Int) < (kl : Int) := by omega
      go_wp2_with fail
      refine (hAw _).mono ?_
      rintro e w2 ⟨rfl, hb2⟩
      go_wp2_with fail
      go_ret
      exact ⟨rfl, hbt.trans (hb2.mono hbt.size)⟩
    have hkli : ¬ (100 : Int) < (kl : Int) := by omega
    have hl1 := hl0.below hb1
    have hkp1 := hkp0.below' hb1
    have hM := made_law 1 w1 p n c ls hl1 s1 s2
    have hok := playN_ok hl1 s2 (pd0_ok (r := 2097152) (by decide) (by decide)) n (Nat.le_refl _)
    clear hl0 hkp0 hl1 s1 s2 hlen
    generalize bytesN ls n = S at *
    generalize playN (pd0 2097152) ls n = m at *
    go_wp2_with fail
    refine hM.mono ?_
    rintro e w2 ⟨rfl, ⟨own, d, hD, ho⟩, hb2⟩
    have hSt := Start_ok w2 _ own 1 _ d m hD hok.r0
    clear hM
    go_wp2_with fail
    refine hSt.mono ?_
    rintro e w3 ⟨rfl, hD3, hc3⟩
    have hok3 : ({ m with down := false } : PD).ok (0 + S) := ⟨hok.r0, hok.r1, hok.told, hok.lasts, hok.keep, hok.left⟩
    have hb3 := hb2.trans (hc3.below hb2.size (fun k e => Nat.le_of_eq e.symm))
    have hdn : ({ m with down := false } : PD).down = false := rfl
    clear hSt hD hok hb2 hc3
    generalize ({ d with down := false } : Dk) = d3 at *
    generalize ({ m with down := false } : PD) = m3 at *
    have gg3 := hD3.dc.lt
    have g13 := hb3.size
    have hC4 := Clone_any w3 _ own 1 2 _ d3 m3 _ hD3 hok3 (by omega) hb3.size
    go_wp2_with fail
    refine hC4.mono ?_
    rintro e w4 ⟨g4, own4, d4, rfl, hg4, hg4', hE4, ho4, hk4, hb4⟩
    have hD4 := hD3.grown hb4 ho4 hE4.fr
    have hB4 := hb3.trans (hb4.mono hb3.size)
    have hC5 := Clone_any w4 _ own4 1 3 _ d3 m3 _ hD4 hok3 (by omega) hB4.size
    clear hC4 hD3
    go_wp2_with fail
    refine hC5.mono ?_
    rintro e w5 ⟨g5, own5, d5, rfl, hg5, hg5', hG5, ho5, hk5, hb5⟩
    have hD5 := hD4.grown hb5 ho5 hG5.fr
    have hE5 := hE4.grown hb5 ho5 hG5.fr
    have hB5 := hB4.trans (hb5.mono hB4.size)
    have hF5 := files_lit w5 _ own5 1 _ d3 m3 _ hD5 hok3 (by omega)
    have hkE : ∀ x, d4.kp = some x → x.block < w4.heap.size := fun x e => (hE4.ok x e).2.2
    clear hC5 hD4 hE4
    go_wp2_with fail
    refine hF5.mono ?_
    rintro e w6 ⟨F, rfl, hR6, _, hc6⟩
    have hE6 := hE5.apart hc6 (by omega) (by have := hD5.og; exact this) (fun x e => by have := hk4 x e; omega)
    have hG6 := hG5.apart hc6 (by omega) (by have := hD5.og; exact this) (fun x e => by have := hk5 x e; omega)
    have hB6 := hB5.trans (hc6.below hB5.size (fun k e => Nat.le_of_eq e.symm))
    have g56 := hc6.size
    have hb7 : Below w6.heap.size w6 (w6.alloc (.cells #[.slice (F 0).p (F 0).n (F 0).c, .slice (F 1).p (F 1).n (F 1).c, .slice (F 2).p (F 2).n (F 2).c, .slice (F 3).p (F 3).n (F 3).c, .slice (F 4).p (F 4).n (F 4).c, .slice (F 5).p (F 5).n (F 5).c, .slice (F 6).p (F 6).n (F 6).c, .slice (F 7).p (F 7).n (F 7).c] 50)) := (Below.refl _ _).alloc (Nat.le_refl _) _
    have hI7 := Ei.new w6 F
    have hR7 := hR6.below hb7
    have hE7 := hE6.below hb7
    have hG7 := hG6.below hb7
    have hB7 := hB6.trans (hb7.mono hB6.size)
    have g67 : (w6.alloc (.cells #[.slice (F 0).p (F 0).n (F 0).c, .slice (F 1).p (F 1).n (F 1).c, .slice (F 2).p (F 2).n (F 2).c, .slice (F 3).p (F 3).n (F 3).c, .slice (F 4).p (F 4).n (F 4).c, .slice (F 5).p (F 5).n (F 5).c, .slice (F 6).p (F 6).n (F 6).c, .slice (F 7).p (F 7).n (F 7).c] 50)).heap.size = w6.heap.size + 1 := by simp
    have hCr := Crash_gen (w6.alloc (.cells #[.slice (F 0).p (F 0).n (F 0).c, .slice (F 1).p (F 1).n (F 1).c, .slice (F 2).p (F 2).n (F 2).c, .slice (F 3).p (F 3).n (F 3).c, .slice (F 4).p (F 4).n (F 4).c, .slice (F 5).p (F 5).n (F 5).c, .slice (F 6).p (F 6).n (F 6).c, .slice (F 7).p (F 7).n (F 7).c] 50)) _ own5 2 _ _ _ hE7 hok3.r0 hdn (hok3.few (by omega)) none 0 0 [] (Rd.empty _ _ _ _ (fun _ => rfl)) (fun x e _ => by cases e) (by omega)
    clear hF5 hE5 hG5 hE6 hG6 hR6 hD5
    go_wp2_with fail
    generalize (w6.alloc (.cells #[.slice (F 0).p (F 0).n (F 0).c, .slice (F 1).p (F 1).n (F 1).c, .slice (F 2).p (F 2).n (F 2).c, .slice (F 3).p (F 3).n (F 3).c, .slice (F 4).p (F 4).n (F 4).c, .slice (F 5).p (F 5).n (F 5).c, .slice (F 6).p (F 6).n (F 6).c, .slice (F 7).p (F 7).n (F 7).c] 50)) = w7 at *
    refine hCr.mono ?_
    rintro e w8 ⟨rfl, d8, hE8, hc8⟩
    have hI8 := hI7.ch hc8 (by show ¬ w6.heap.size = g4; omega)
    have hR8 := hR7.ch hc8 (fun k hk _ => by show ¬ k = g4; omega)
    have hG8 := hG7.apart hc8 (by omega) (by have := hE7.og; exact this) (fun x e => by have := hk5 x e; omega)
    have hB8 := hB7.trans (hc8.below hB7.size (fun k e => by omega))
    have hCs := Crash_gen w8 _ own5 3 _ _ _ hG8 hok3.r0 hdn (hok3.few (by omega)) kq kl kc keep (hkp1.low hB8 (Nat.le_refl _)) (fun x e h0 => by have := hkp1.blk e h0; omega) (by omega)
    clear hCr hE7 hG7 hI7 hR7
    go_wp2_with fail
    refine hCs.mono ?_
    rintro e w9 ⟨rfl, d9, hG9, hc9⟩
    have hI9 := hI8.ch hc9 (by show ¬ w6.heap.size = g5; omega)
    have hR9 := hR8.ch hc9 (fun k hk _ => by show ¬ k = g5; omega)
    have hB9 := hB8.trans (hc9.below hB8.size (fun k e => by omega))
    have hE9 : DA w9 w1.heap.size own5 2 g4 d8 (m3.fall []) := hE8.apart0 hc9 (by omega) (by have := hG9.og; exact this) rfl
    have hok8 := hok3.fall []
    have hok9 := hok3.fall keep
    have z9 := hc9.size
    have z8 := hc8.size
    have hFa := files_lit w9 _ own5 2 _ _ _ _ hE9 hok8 (by omega)
    clear hCs hG8 hI8 hR8 hE8
    go_wp2_with fail
    refine hFa.mono ?_
    rintro e wa ⟨G, rfl, hRa, _, hca⟩
    have hIa := hI9.ch hca (by show ¬ w6.heap.size = g4; omega)
    have hQa := hR9.ch hca (fun k hk _ => by show ¬ k = g4; omega)
    have hGa := hG9.apart0 hca (by omega) (by have := hE9.og; exact this) rfl
    have hBa := hB9.trans (hca.below hB9.size (fun k e => by omega))
    have hFb := files_lit wa _ own5 3 _ _ _ _ hGa hok9 (by omega)
    have za := hca.size
    clear hFa hG9 hI9 hR9 hE9
    go_wp2_with fail
    refine hFb.mono ?_
    rintro e wb ⟨H, rfl, hRb, _, hcb⟩
    have hIb := hIa.ch hcb (by show ¬ w6.heap.size = g5; omega)
    have hQb := hQa.ch hcb (fun k hk _ => by show ¬ k = g5; omega)
    have hPb := hRa.ch hcb (fun k hk _ => by show ¬ k = g5; omega)
    have hBb := hBa.trans (hcb.below hBa.size (fun k e => by omega))
    clear hFb hIa hQa hRa hGa
    have hbc : Below wb.heap.size wb (wb.alloc (.cells #[.slice (G 0).p (G 0).n (G 0).c, .slice (G 1).p (G 1).n (G 1).c, .slice (G 2).p (G 2).n (G 2).c, .slice (G 3).p (G 3).n (G 3).c, .slice (G 4).p (G 4).n (G 4).c, .slice (G 5).p (G 5).n (G 5).c, .slice (G 6).p (G 6).n (G 6).c, .slice (G 7).p (G 7).n (G 7).c] 50)) := (Below.refl _ _).alloc (Nat.le_refl _) _
    have hbd : Below (wb.alloc (.cells #[.slice (G 0).p (G 0).n (G 0).c, .slice (G 1).p (G 1).n (G 1).c, .slice (G 2).p (G 2).n (G 2).c, .slice (G 3).p (G 3).n (G 3).c, .slice (G 4).p (G 4).n (G 4).c, .slice (G 5).p (G 5).n (G 5).c, .slice (G 6).p (G 6).n (G 6).c, .slice (G 7).p (G 7).n (G 7).c] 50)).heap.size (wb.alloc (.cells #[.slice (G 0).p (G 0).n (G 0).c, .slice (G 1).p (G 1).n (G 1).c, .slice (G 2).p (G 2).n (G 2).c, .slice (G 3).p (G 3).n (G 3).c, .slice (G 4).p (G 4).n (G 4).c, .slice (G 5).p (G 5).n (G 5).c, .slice (G 6).p (G 6).n (G 6).c, .slice (G 7).p (G 7).n (G 7).c] 50)) ((wb.alloc (.cells #[.slice (G 0).p (G 0).n (G 0).c, .slice (G 1).p (G 1).n (G 1).c, .slice (G 2).p (G 2).n (G 2).c, .slice (G 3).p (G 3).n (G 3).c, .slice (G 4).p (G 4).n (G 4).c, .slice (G 5).p (G 5).n (G 5).c, .slice (G 6).p (G 6).n (G 6).c, .slice (G 7).p (G 7).n (G 7).c] 50)).alloc (.cells #[.slice (H 0).p (H 0).n (H 0).c, .slice (H 1).p (H 1).n (H 1).c, .slice (H 2).p (H 2).n (H 2).c, .slice (H 3).p (H 3).n (H 3).c, .slice (H 4).p (H 4).n (H 4).c, .slice (H 5).p (H 5).n (H 5).c, .slice (H 6).p (H 6).n (H 6).c, .slice (H 7).p (H 7).n (H 7).c] 50)) := (Below.refl _ _).alloc (Nat.le_refl _) _
    have hJc := (Ei.new wb G).below hbd
    have hKc := Ei.new (wb.alloc (.cells #[.slice (G 0).p (G 0).n (G 0).c, .slice (G 1).p (G 1).n (G 1).c, .slice (G 2).p (G 2).n (G 2).c, .slice (G 3).p (G 3).n (G 3).c, .slice (G 4).p (G 4).n (G 4).c, .slice (G 5).p (G 5).n (G 5).c, .slice (G 6).p (G 6).n (G 6).c, .slice (G 7).p (G 7).n (G 7).c] 50)) H
    have hbe := hbc.trans (hbd.mono hbc.size)
    have hIc := hIb.below hbe
    have hQc := hQb.below hbe
    have hPc := hPb.below hbe
    have hRc := hRb.below hbe
    have hBc := hBb.trans (hbe.mono hBb.size)
    have hsz : (wb.alloc (.cells #[.slice (G 0).p (G 0).n (G 0).c, .slice (G 1).p (G 1).n (G 1).c, .slice (G 2).p (G 2).n (G 2).c, .slice (G 3).p (G 3).n (G 3).c, .slice (G 4).p (G 4).n (G 4).c, .slice (G 5).p (G 5).n (G 5).c, .slice (G 6).p (G 6).n (G 6).c, .slice (G 7).p (G 7).n (G 7).c] 50)).heap.size = wb.heap.size + 1 := by simp
    rw [hsz] at hKc
    clear hbc hbd hbe hIb hQb hPb hRb hBb
    go_wp2_with fail
    generalize ((wb.alloc (.cells #[.slice (G 0).p (G 0).n (G 0).c, .slice (G 1).p (G 1).n (G 1).c, .slice (G 2).p (G 2).n (G 2).c, .slice (G 3).p (G 3).n (G 3).c, .slice (G 4).p (G 4).n (G 4).c, .slice (G 5).p (G 5).n (G 5).c, .slice (G 6).p (G 6).n (G 6).c, .slice (G 7).p (G 7).n (G 7).c] 50)).alloc (.cells #[.slice (H 0).p (H 0).n (H 0).c, .slice (H 1).p (H 1).n (H 1).c, .slice (H 2).p (H 2).n (H 2).c, .slice (H 3).p (H 3).n (H 3).c, .slice (H 4).p (H 4).n (H 4).c, .slice (H 5).p (H 5).n (H 5).c, .slice (H 6).p (H 6).n (H 6).c, .slice (H 7).p (H 7).n (H 7).c] 50)) = wc at *
    have hkpc := hkp1.low hBc (Nat.le_refl _)
    have hlk := hkp1.len
    go_loopw [41] (fun ix wr => ∃ (k : Nat), k ≤ 8 ∧ ix = .int .i64 k ∧ Below wc.heap.size wc wr) (fun ix _ => 8 - (intOf ix).toNat)
    case atStart => exact ⟨0, Nat.zero_le _, rfl, Below.refl _ _⟩
    case round =>
      obtain ⟨k, hk, rfl, hbr⟩ := hrel
      by_cases h8 : k < 8
      · have hki : (k : Int) < 8 := by omega
        have v1 := (hIc.below hbr).cells k h8
        have v2 := (hJc.below hbr).cells k h8
        have v3 := (hKc.below hbr).cells k h8
        have rT := (hQc.below hbr k h8).1
        have rL := (hPc.below hbr k h8).1
        have rN := (hRc.below hbr k h8).1
        have hkr := hkpc.low hbr (Nat.le_refl _)
        try dsimp only at rT rL rN
        rw [fall_low m3 [] h8 (keepAt_none [] (Nat.zero_le _))] at rL
        have hlow := fun h => fall_low m3 keep (i := k) h8 h
        have hhigh := fun h => fall_high m3 keep (i := k) h8 h
        clear hIc hJc hKc hQc hPc hRc
        generalize F k = Fk at *
        generalize G k = Gk at *
        generalize H k = Hk at *
        obtain ⟨fp, fn, fc⟩ := Fk
        obtain ⟨gp, gn, gc⟩ := Gk
        obtain ⟨hp, hn, hc⟩ := Hk
        dsimp only at *
        generalize ((m3.fall keep).f k).told = xN at *
        generalize (m3.f k).told = xT at *
        generalize (m3.f k).lasts = xL at *
        have hHas : ∀ t, Calls Try.prog 26 #[.slice fp fn fc, .slice hp hn hc] (wr.drewN t) fun e w' => e = .returned (.bool (hasB xT xN)) ∧ w' = wr.drewN t := fun t => by
          have hbd := below_drewN (Below.refl wr.heap.size wr) t
          exact hasp_any fp hp fn fc hn hc _ _ _ (rT.below' hbd) (rN.below' hbd)
        by_cases hkk : kl ≤ k
        · have hko : ((kl : Int) ≤ (k : Int)) := by omega
          obtain rfl := hlow (keepAt_none keep (by omega))
          have hEq : ∀ t, Calls Try.prog 21 #[.slice hp hn hc, .slice gp gn gc] (wr.drewN t) fun e w' => e = .returned (.bool true) ∧ w' = wr.drewN t := fun t => by
            have hbd := below_drewN (Below.refl wr.heap.size wr) t
            exact equal_same hp gp hn hc gn gc _ _ (rN.below' hbd) (rL.below' hbd)
          clear hhigh hlow rT rL rN
          generalize hasB xT xN = hb at *
          cases hb with
          | true =>
            go_wp2_with fail
            go_quiet (first | (go_at_call 21; exact Calls.quiet_of_same (hEq _)) | (go_at_call 26; exact Calls.quiet_of_same (hHas _)))
            go_wp2_with fail
            go_roundw
            case rel => exact ⟨k + 1, by omega, by go_num, below_drewN hbr _⟩
            case measure => simp [intOf]; omega
          | false =>
            go_wp2_with fail
            go_quiet (first | (go_at_call 21; exact Calls.quiet_of_same (hEq _)) | (go_at_call 26; exact Calls.quiet_of_same (hHas _)))
            go_wp2_with fail
            go_roundw
            case rel => exact ⟨k + 1, by omega, by go_num, below_drewN hbr _⟩
            case measure => simp [intOf]; omega
        · have hko : ¬ ((kl : Int) ≤ (k : Int)) := by omega
          have hlt : k < kl := by omega
          obtain ⟨kb, ko, rfl, hkc⟩ := hkr.cells (by omega)
          have hkk2 := hkc k hlt
          have eK := keepAt_some keep (i := k) (by omega)
          rw [eK] at hlow hhigh
          clear hkc eK
          generalize keep.getD k 0 = kv at *
          by_cases hneg : kv < 0
          · obtain rfl := hlow hneg
            have hEq : ∀ t, Calls Try.prog 21 #[.slice hp hn hc, .slice gp gn gc] (wr.drewN t) fun e w' => e = .returned (.bool true) ∧ w' = wr.drewN t := fun t => by
              have hbd := below_drewN (Below.refl wr.heap.size wr) t
              exact equal_same hp gp hn hc gn gc _ _ (rN.below' hbd) (rL.below' hbd)
            clear hhigh hlow rT rL rN
            generalize hasB xT xN = hb at *
            cases hb with
            | true =>
              go_wp2_with fail
              go_quiet (first | (go_at_call 21; exact Calls.quiet_of_same (hEq _)) | (go_at_call 26; exact Calls.quiet_of_same (hHas _)))
              go_wp2_with fail
              go_roundw
              case rel => exact ⟨k + 1, by omega, by go_num, below_drewN hbr _⟩
              case measure => simp [intOf]; omega
            | false =>
              go_wp2_with fail
              go_quiet (first | (go_at_call 21; exact Calls.quiet_of_same (hEq _)) | (go_at_call 26; exact Calls.quiet_of_same (hHas _)))
              go_wp2_with fail
              go_roundw
              case rel => exact ⟨k + 1, by omega, by go_num, below_drewN hbr _⟩
              case measure => simp [intOf]; omega
          · have hpre := hasB_pre (hhigh hneg)
            have hnd : decide (kv < 0) = false := decide_eq_false hneg
            rw [hpre] at hHas
            clear hhigh hlow rT rL rN
            go_wp2_with fail
            go_quiet ((go_at_call 26; exact Calls.quiet_of_same (hHas _)))
            go_wp2_with fail
            go_roundw
            case rel => exact ⟨k + 1, by omega, by go_num, below_drewN hbr _⟩
            case measure => simp [intOf]; omega
      · obtain rfl : k = 8 := by omega
        clear hIc hJc hKc hQc hPc hRc
        have hBr := hBc.trans (hbr.mono hBc.size)
        go_wp2_with fail
        refine (hAw _).mono ?_
        rintro e wz ⟨rfl, hbz⟩
        have hbE := (hbt.trans (hBr.mono hbt.size)).trans (hbz.mono (hbt.trans (hBr.mono hbt.size)).size)
        go_wp2_with fail
        go_ret
        exact ⟨rfl, hbE⟩

end Go.Proofs.Ytcgpdaalehgjdaa.M
