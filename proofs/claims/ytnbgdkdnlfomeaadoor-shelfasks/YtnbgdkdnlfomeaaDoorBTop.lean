/-
  Own text: the last version of a key, and the last committed one.
-/
import Derived.Test.YtnbgdkdnlfomeaaDoorBDet
namespace Go.Proofs.YtnbgdkdnlfomeaaDoor.M
open Go.ChangeShapes Go.WideShapes Go.ChangeAt Go.RowKit Go.ChangeMaps Go.MapKept Go.Maps
set_option linter.unusedSimpArgs false

set_option maxRecDepth 20000 in
set_option maxHeartbeats 4000000 in
theorem top_any {w : World} {g b : Nat} {p : Option Addr} {n c : Nat} {s : Sh} (h : ShB w g b p n c s) (k : Nat) (hk : k < 18446744073709551616) :
    Calls Tryd.prog 29 #[.pointer (some ⟨g, 0, none⟩), .agg #[.int .u8 (bt (k) 0), .int .u8 (bt (k) 1), .int .u8 (bt (k) 2), .int .u8 (bt (k) 3), .int .u8 (bt (k) 4), .int .u8 (bt (k) 5), .int .u8 (bt (k) 6), .int .u8 (bt (k) 7)]] w fun e w' => e = .returned (.agg #[.int .u8 (bt ((lookC (s.low.adds s.tail).cs k).getD .z0).k 0), .int .u8 (bt ((lookC (s.low.adds s.tail).cs k).getD .z0).k 1), .int .u8 (bt ((lookC (s.low.adds s.tail).cs k).getD .z0).k 2), .int .u8 (bt ((lookC (s.low.adds s.tail).cs k).getD .z0).k 3), .int .u8 (bt ((lookC (s.low.adds s.tail).cs k).getD .z0).k 4), .int .u8 (bt ((lookC (s.low.adds s.tail).cs k).getD .z0).k 5), .int .u8 (bt ((lookC (s.low.adds s.tail).cs k).getD .z0).k 6), .int .u8 (bt ((lookC (s.low.adds s.tail).cs k).getD .z0).k 7), .int .i64 ((lookC (s.low.adds s.tail).cs k).getD .z0).v, .string ((lookC (s.low.adds s.tail).cs k).getD .z0).s]) ∧ Below w.heap.size w w' := by
  have hb1 := below_alloc' w (.cells #[.int .u8 (bt (k) 0), .int .u8 (bt (k) 1), .int .u8 (bt (k) 2), .int .u8 (bt (k) 3), .int .u8 (bt (k) 4), .int .u8 (bt (k) 5), .int .u8 (bt (k) 6), .int .u8 (bt (k) 7)] 28)
  have hb0 := hb1.trans ((below_alloc' (w.alloc (.cells #[.int .u8 (bt (k) 0), .int .u8 (bt (k) 1), .int .u8 (bt (k) 2), .int .u8 (bt (k) 3), .int .u8 (bt (k) 4), .int .u8 (bt (k) 5), .int .u8 (bt (k) 6), .int .u8 (bt (k) 7)] 28)) (.cells #[.int .u8 0, .int .u8 0, .int .u8 0, .int .u8 0, .int .u8 0, .int .u8 0, .int .u8 0, .int .u8 0, .int .i64 0, .string ⟨#[]⟩] 53)).mono hb1.size)
  have hs1 : (w.alloc (.cells #[.int .u8 (bt (k) 0), .int .u8 (bt (k) 1), .int .u8 (bt (k) 2), .int .u8 (bt (k) 3), .int .u8 (bt (k) 4), .int .u8 (bt (k) 5), .int .u8 (bt (k) 6), .int .u8 (bt (k) 7)] 28)).heap.size = w.heap.size + 1 := by simp
  have hKy : At 28 ((w.alloc (.cells #[.int .u8 (bt (k) 0), .int .u8 (bt (k) 1), .int .u8 (bt (k) 2), .int .u8 (bt (k) 3), .int .u8 (bt (k) 4), .int .u8 (bt (k) 5), .int .u8 (bt (k) 6), .int .u8 (bt (k) 7)] 28)).alloc (.cells #[.int .u8 0, .int .u8 0, .int .u8 0, .int .u8 0, .int .u8 0, .int .u8 0, .int .u8 0, .int .u8 0, .int .i64 0, .string ⟨#[]⟩] 53)) w.heap.size #[.int .u8 (bt (k) 0), .int .u8 (bt (k) 1), .int .u8 (bt (k) 2), .int .u8 (bt (k) 3), .int .u8 (bt (k) 4), .int .u8 (bt (k) 5), .int .u8 (bt (k) 6), .int .u8 (bt (k) 7)] := (At.new _ w _).alloc _
  have hBx : At 53 ((w.alloc (.cells #[.int .u8 (bt (k) 0), .int .u8 (bt (k) 1), .int .u8 (bt (k) 2), .int .u8 (bt (k) 3), .int .u8 (bt (k) 4), .int .u8 (bt (k) 5), .int .u8 (bt (k) 6), .int .u8 (bt (k) 7)] 28)).alloc (.cells #[.int .u8 0, .int .u8 0, .int .u8 0, .int .u8 0, .int .u8 0, .int .u8 0, .int .u8 0, .int .u8 0, .int .i64 0, .string ⟨#[]⟩] 53)) (w.heap.size + 1) #[.int .u8 0, .int .u8 0, .int .u8 0, .int .u8 0, .int .u8 0, .int .u8 0, .int .u8 0, .int .u8 0, .int .i64 0, .string ⟨#[]⟩] := by rw [← hs1]; exact At.new _ _ _
  have hSh := h.below hb0
  have hm := hSh.made
  have hln := h.len
  have hfw := h.inv.few
  have hg4w : w.heap.size ≤ w.heap.size + 1 := Nat.le_succ _
  clear hb1 hs1 h
  go_enter Tryd.func29, Tryd.ntmps29
  go_wp2_with fail
  generalize ((w.alloc (.cells #[.int .u8 (bt (k) 0), .int .u8 (bt (k) 1), .int .u8 (bt (k) 2), .int .u8 (bt (k) 3), .int .u8 (bt (k) 4), .int .u8 (bt (k) 5), .int .u8 (bt (k) 6), .int .u8 (bt (k) 7)] 28)).alloc (.cells #[.int .u8 0, .int .u8 0, .int .u8 0, .int .u8 0, .int .u8 0, .int .u8 0, .int .u8 0, .int .u8 0, .int .i64 0, .string ⟨#[]⟩] 53)) = V0 at *
  refine hm.mono ?_
  rintro e w1 ⟨rfl, rfl⟩
  clear hm
  generalize hg4e : w.heap.size + 1 = g4 at *
  go_wp2_with fail
  have hS0 : Bl w1 w1.drew := (Below.refl _ _).drew
  refine wp_region_det [0, 1, 2, 3, 4, 5, 6, 7, 10] (Bl w1) (Bl w1) (by kernel_rfl) hS0 ?_
  refine wpDet_take ?vW0 (Bl.stays w1) (fun _ h => h) (i := 0) rfl (by kernel_rfl) (by kernel_rfl) (by kernel_rfl) (by kernel_rfl) (fun _ _ _ h => h) (Gives.value (by rfl) ?yW0) ?rW0
  case yW0 => (intro w' hSw; (try dsimp only at hSw); go_simp; try with_reducible rfl)
  (try simp only [Act.put, List.getElem_toArray, List.getElem_cons_zero, List.getElem_cons_succ, List.setIfInBounds_toArray, List.set_cons_zero, List.set_cons_succ])
  refine wpDet_take ?vW1 (Bl.stays w1) (fun _ h => h) (i := 1) rfl (by kernel_rfl) (by kernel_rfl) (by kernel_rfl) (by kernel_rfl) (fun _ _ _ h => h) (Gives.value (by rfl) ?yW1) ?rW1
  case yW1 => (intro w' hSw; (try dsimp only at hSw); go_simp; try with_reducible rfl)
  (try simp only [Act.put, List.getElem_toArray, List.getElem_cons_zero, List.getElem_cons_succ, List.setIfInBounds_toArray, List.set_cons_zero, List.set_cons_succ])
  refine wpDet_take ?vW2 (Bl.stays w1) (fun _ h => h) (i := 2) rfl (by kernel_rfl) (by kernel_rfl) (by kernel_rfl) (by kernel_rfl) (fun _ _ _ h => h) (Gives.value (by rfl) ?yW2) ?rW2
  case yW2 => (intro w' hSw; (try dsimp only at hSw); go_simp; try with_reducible rfl)
  (try simp only [Act.put, List.getElem_toArray, List.getElem_cons_zero, List.getElem_cons_succ, List.setIfInBounds_toArray, List.set_cons_zero, List.set_cons_succ])
  refine wpDet_take ?vW3 (Bl.stays w1) (fun _ h => h) (i := 3) rfl (by kernel_rfl) (by kernel_rfl) (by kernel_rfl) (by kernel_rfl) (fun _ _ _ h => h) (Gives.value (by rfl) ?yW3) ?rW3
  case yW3 => (intro w' hSw; obtain ⟨⟨zz0, zz1, zz2, zz3, zz4, zz5, zz6, zz7, zz8, zz9, zz10, zz11, zz12, zz13, zz14⟩, zz15, zz16⟩ := (hSh.below (show Below w1.heap.size w1 w' from hSw)).cells; (try dsimp only at hSw); go_simp; try with_reducible rfl)
  (try simp only [Act.put, List.getElem_toArray, List.getElem_cons_zero, List.getElem_cons_succ, List.setIfInBounds_toArray, List.set_cons_zero, List.set_cons_succ])
  refine wpDet_take ?vW4 (Bl.stays w1) (fun _ h => h) (i := 4) rfl (by kernel_rfl) (by kernel_rfl) (by kernel_rfl) (by kernel_rfl) (fun _ _ _ h => h) (Gives.value (by rfl) ?yW4) ?rW4
  case yW4 => (intro w' hSw; (try dsimp only at hSw); go_simp; try with_reducible rfl)
  (try simp only [Act.put, List.getElem_toArray, List.getElem_cons_zero, List.getElem_cons_succ, List.setIfInBounds_toArray, List.set_cons_zero, List.set_cons_succ])
  refine wpDet_take ?vW5 (Bl.stays w1) (fun _ h => h) (i := 5) rfl (by kernel_rfl) (by kernel_rfl) (by kernel_rfl) (by kernel_rfl) (fun _ _ _ h => h) (Gives.value (by rfl) ?yW5) ?rW5
  case yW5 => (intro w' hSw; (try dsimp only at hSw); go_simp; try with_reducible rfl)
  (try simp only [Act.put, List.getElem_toArray, List.getElem_cons_zero, List.getElem_cons_succ, List.setIfInBounds_toArray, List.set_cons_zero, List.set_cons_succ])
  refine wpDet_take ?vW6 (Bl.stays w1) (fun _ h => h) (i := 6) rfl (by kernel_rfl) (by kernel_rfl) (by kernel_rfl) (by kernel_rfl) (fun _ _ _ h => h) (Gives.value (by rfl) ?yW6) ?rW6
  case yW6 => (intro w' hSw; (try dsimp only at hSw); go_simp; try with_reducible rfl)
  (try simp only [Act.put, List.getElem_toArray, List.getElem_cons_zero, List.getElem_cons_succ, List.setIfInBounds_toArray, List.set_cons_zero, List.set_cons_succ])
  refine wpDet_take ?vW7 (Bl.stays w1) (fun _ h => h) (i := 7) rfl (by kernel_rfl) (by kernel_rfl) (by kernel_rfl) (by kernel_rfl) (fun _ _ _ h => h) (Gives.value (by rfl) ?yW7) ?rW7
  case yW7 => (intro w' hSw; obtain ⟨⟨zz0, zz1, zz2, zz3, zz4, zz5, zz6, zz7, zz8, zz9, zz10, zz11, zz12, zz13, zz14⟩, zz15, zz16⟩ := (hSh.below (show Below w1.heap.size w1 w' from hSw)).cells; (try dsimp only at hSw); go_simp; try with_reducible rfl)
  (try simp only [Act.put, List.getElem_toArray, List.getElem_cons_zero, List.getElem_cons_succ, List.setIfInBounds_toArray, List.set_cons_zero, List.set_cons_succ])
  refine wpDet_take ?vW10 (Bl.stays w1) (fun _ h => h) (i := 10) rfl (by kernel_rfl) (by kernel_rfl) (by kernel_rfl) (by kernel_rfl) (fun _ _ _ h => h) (Gives.value (by rfl) ?yW10) ?rW10
  case yW10 => (intro w' hSw; have kk := At.below hKy (show Below w1.heap.size w1 w' from hSw); have q0 := At.cell kk 0; have q1 := At.cell kk 1; have q2 := At.cell kk 2; have q3 := At.cell kk 3; have q4 := At.cell kk 4; have q5 := At.cell kk 5; have q6 := At.cell kk 6; have q7 := At.cell kk 7; simp only [List.getElem?_toArray, List.getElem?_cons_zero, List.getElem?_cons_succ] at q0 q1 q2 q3 q4 q5 q6 q7; (try dsimp only at hSw); go_simp; try with_reducible rfl)
  (try simp only [Act.put, List.getElem_toArray, List.getElem_cons_zero, List.getElem_cons_succ, List.setIfInBounds_toArray, List.set_cons_zero, List.set_cons_succ])
  refine wpDet_ready (rs := [8]) (by kernel_rfl) (by simp) (AllDet.cons rfl (fun V hV K hK => ?_) AllDet.nil)
  rw [if_pos (by rfl)]
  have hbV := Bl.out hV
  have hC := with_any s.low b p n c s.tail V (hSh.mp.below hbV) (hSh.tl.rd.below hbV) hSh.inv.ok (by omega)
  refine wp_enterX 55 #[.agg #[.int .i64 s.low.ix, .int .i64 s.low.ep, .map (some b), .int .i64 (s.low.d 0).c, .int .i64 (s.low.d 0).q, .int .i64 (s.low.d 0).v, .int .i64 (s.low.d 1).c, .int .i64 (s.low.d 1).q, .int .i64 (s.low.d 1).v, .int .i64 (s.low.d 2).c, .int .i64 (s.low.d 2).q, .int .i64 (s.low.d 2).v, .int .i64 (s.low.d 3).c, .int .i64 (s.low.d 3).q, .int .i64 (s.low.d 3).v], .slice p n c] (by first | (go_simp; done) | (go_simp; rfl)) (fun x W => ∃ b', x = .agg #[.int .i64 (s.low.adds s.tail).ix, .int .i64 (s.low.adds s.tail).ep, .map (some b'), .int .i64 ((s.low.adds s.tail).d 0).c, .int .i64 ((s.low.adds s.tail).d 0).q, .int .i64 ((s.low.adds s.tail).d 0).v, .int .i64 ((s.low.adds s.tail).d 1).c, .int .i64 ((s.low.adds s.tail).d 1).q, .int .i64 ((s.low.adds s.tail).d 1).v, .int .i64 ((s.low.adds s.tail).d 2).c, .int .i64 ((s.low.adds s.tail).d 2).q, .int .i64 ((s.low.adds s.tail).d 2).v, .int .i64 ((s.low.adds s.tail).d 3).c, .int .i64 ((s.low.adds s.tail).d 3).q, .int .i64 ((s.low.adds s.tail).d 3).v] ∧ MC W b' (s.low.adds s.tail).cs ∧ V.heap.size ≤ b' ∧ Below V.heap.size V W) (hC.mono fun r w' ⟨b', h1, h2, h3, h4⟩ => ⟨_, h1, b', rfl, h2, h3, h4⟩) ?_
  rintro x7 V7 ⟨b7, rfl, hm7, hb7, hbl7⟩
  have hz7 : MW w1 b7 (s.low.adds s.tail).cs V7 := ⟨Bl.stays w1 V _ hV hbl7, hm7, Nat.le_trans hbV.size hb7⟩
  refine hK.out (MW w1 b7 (s.low.adds s.tail).cs) _ _ (MW.stays _ _ _) (fun _ _ h => h.1) hz7 ?_
  clear hK K hV hC hbl7 hm7 hz7 hbV hb7
  (try simp only [Act.put, List.getElem_toArray, List.getElem_cons_zero, List.getElem_cons_succ, List.setIfInBounds_toArray, List.set_cons_zero, List.set_cons_succ])
  refine wpDet_ready (rs := [9]) (by kernel_rfl) (by simp) (AllDet.cons rfl (fun V hV K hK => ?_) AllDet.nil)
  rw [if_pos (by rfl)]
  have hfs := field_sum (s.low.adds s.tail) b7
  refine wp_value (.map (some b7)) V (by first | (go_simp; done) | (go_simp; rfl)) ?_
  refine hK.out (MW w1 b7 (s.low.adds s.tail).cs) _ _ (MW.stays _ _ _) (fun _ _ h => h.1) hV ?_
  clear hK K hV hfs
  (try simp only [Act.put, List.getElem_toArray, List.getElem_cons_zero, List.getElem_cons_succ, List.setIfInBounds_toArray, List.set_cons_zero, List.set_cons_succ])
  refine wpDet_ready (rs := [11]) (by kernel_rfl) (by simp) (AllDet.cons rfl (fun V hV K hK => ?_) AllDet.nil)
  rw [if_pos (by rfl)]
  have hlk : (Instr.lookup 80 (.map (some b7)) (.agg #[.int .u8 (bt (k) 0), .int .u8 (bt (k) 1), .int .u8 (bt (k) 2), .int .u8 (bt (k) 3), .int .u8 (bt (k) 4), .int .u8 (bt (k) 5), .int .u8 (bt (k) 6), .int .u8 (bt (k) 7)]) false).run Tryd.prog V = .ok (.agg #[.int .u8 (bt ((lookC (s.low.adds s.tail).cs k).getD .z0).k 0), .int .u8 (bt ((lookC (s.low.adds s.tail).cs k).getD .z0).k 1), .int .u8 (bt ((lookC (s.low.adds s.tail).cs k).getD .z0).k 2), .int .u8 (bt ((lookC (s.low.adds s.tail).cs k).getD .z0).k 3), .int .u8 (bt ((lookC (s.low.adds s.tail).cs k).getD .z0).k 4), .int .u8 (bt ((lookC (s.low.adds s.tail).cs k).getD .z0).k 5), .int .u8 (bt ((lookC (s.low.adds s.tail).cs k).getD .z0).k 6), .int .u8 (bt ((lookC (s.low.adds s.tail).cs k).getD .z0).k 7), .int .i64 ((lookC (s.low.adds s.tail).cs k).getD .z0).v, .string ((lookC (s.low.adds s.tail).cs k).getD .z0).s]) V := hV.2.1.look hk
  refine wp_value (.agg #[.int .u8 (bt ((lookC (s.low.adds s.tail).cs k).getD .z0).k 0), .int .u8 (bt ((lookC (s.low.adds s.tail).cs k).getD .z0).k 1), .int .u8 (bt ((lookC (s.low.adds s.tail).cs k).getD .z0).k 2), .int .u8 (bt ((lookC (s.low.adds s.tail).cs k).getD .z0).k 3), .int .u8 (bt ((lookC (s.low.adds s.tail).cs k).getD .z0).k 4), .int .u8 (bt ((lookC (s.low.adds s.tail).cs k).getD .z0).k 5), .int .u8 (bt ((lookC (s.low.adds s.tail).cs k).getD .z0).k 6), .int .u8 (bt ((lookC (s.low.adds s.tail).cs k).getD .z0).k 7), .int .i64 ((lookC (s.low.adds s.tail).cs k).getD .z0).v, .string ((lookC (s.low.adds s.tail).cs k).getD .z0).s]) V (by first | (go_simp; done) | (go_simp; rfl)) ?_
  refine hK.out (MW w1 b7 (s.low.adds s.tail).cs) _ _ (MW.stays _ _ _) (fun _ _ h => h.1) hV ?_
  clear hK K hV hlk
  (try simp only [Act.put, List.getElem_toArray, List.getElem_cons_zero, List.getElem_cons_succ, List.setIfInBounds_toArray, List.set_cons_zero, List.set_cons_succ])
  refine wpDet_ready (rs := [12]) (by kernel_rfl) (by simp) (AllDet.cons rfl (fun V hV K hK => ?_) AllDet.nil)
  rw [if_pos (by rfl)]
  have hg4 := At.below hBx (Bl.out hV.1)
  refine wp_store_row 53 _ _ rfl g4 #[.int .u8 (bt ((lookC (s.low.adds s.tail).cs k).getD .z0).k 0), .int .u8 (bt ((lookC (s.low.adds s.tail).cs k).getD .z0).k 1), .int .u8 (bt ((lookC (s.low.adds s.tail).cs k).getD .z0).k 2), .int .u8 (bt ((lookC (s.low.adds s.tail).cs k).getD .z0).k 3), .int .u8 (bt ((lookC (s.low.adds s.tail).cs k).getD .z0).k 4), .int .u8 (bt ((lookC (s.low.adds s.tail).cs k).getD .z0).k 5), .int .u8 (bt ((lookC (s.low.adds s.tail).cs k).getD .z0).k 6), .int .u8 (bt ((lookC (s.low.adds s.tail).cs k).getD .z0).k 7), .int .i64 ((lookC (s.low.adds s.tail).cs k).getD .z0).v, .string ((lookC (s.low.adds s.tail).cs k).getD .z0).s] rfl rfl _ _ hg4 infoCe rfl oneCe ?_
  have hz9 : CB w w.heap.size g4 ((lookC (s.low.adds s.tail).cs k).getD .z0) (V.setRow g4 #[.int .u8 (bt ((lookC (s.low.adds s.tail).cs k).getD .z0).k 0), .int .u8 (bt ((lookC (s.low.adds s.tail).cs k).getD .z0).k 1), .int .u8 (bt ((lookC (s.low.adds s.tail).cs k).getD .z0).k 2), .int .u8 (bt ((lookC (s.low.adds s.tail).cs k).getD .z0).k 3), .int .u8 (bt ((lookC (s.low.adds s.tail).cs k).getD .z0).k 4), .int .u8 (bt ((lookC (s.low.adds s.tail).cs k).getD .z0).k 5), .int .u8 (bt ((lookC (s.low.adds s.tail).cs k).getD .z0).k 6), .int .u8 (bt ((lookC (s.low.adds s.tail).cs k).getD .z0).k 7), .int .i64 ((lookC (s.low.adds s.tail).cs k).getD .z0).v, .string ((lookC (s.low.adds s.tail).cs k).getD .z0).s]) := ⟨(hb0.trans ((Bl.out hV.1).mono hb0.size)).trans (below_setRow V g4 _ hg4w), hg4.row _, by rw [World.setRow]; simp; exact Nat.le_trans hb0.size (Bl.out hV.1).size⟩
  refine hK.out (CB w w.heap.size g4 ((lookC (s.low.adds s.tail).cs k).getD .z0)) _ _ (CB.stays _ _ _ _) (no_lean (by kernel_rfl)) hz9 ?_
  clear hK K hV hg4 hz9
  (try simp only [Act.put, List.getElem_toArray, List.getElem_cons_zero, List.getElem_cons_succ, List.setIfInBounds_toArray, List.set_cons_zero, List.set_cons_succ])
  refine wpDet_done (by kernel_rfl) (fun W9 hV => ?_) _
  obtain ⟨hB9, hA9, _⟩ := hV
  go_wp2_with fail
  exact bodyPost_ret (v := .agg #[.int .u8 (bt ((lookC (s.low.adds s.tail).cs k).getD .z0).k 0), .int .u8 (bt ((lookC (s.low.adds s.tail).cs k).getD .z0).k 1), .int .u8 (bt ((lookC (s.low.adds s.tail).cs k).getD .z0).k 2), .int .u8 (bt ((lookC (s.low.adds s.tail).cs k).getD .z0).k 3), .int .u8 (bt ((lookC (s.low.adds s.tail).cs k).getD .z0).k 4), .int .u8 (bt ((lookC (s.low.adds s.tail).cs k).getD .z0).k 5), .int .u8 (bt ((lookC (s.low.adds s.tail).cs k).getD .z0).k 6), .int .u8 (bt ((lookC (s.low.adds s.tail).cs k).getD .z0).k 7), .int .i64 ((lookC (s.low.adds s.tail).cs k).getD .z0).v, .string ((lookC (s.low.adds s.tail).cs k).getD .z0).s]) (results_cell_row rfl _ _ g4 _ _ _ _ rfl hA9 Tryd.underlying53 rfl infoCe) rfl ⟨rfl, hB9⟩

set_option maxRecDepth 20000 in
set_option maxHeartbeats 4000000 in
theorem clean_any {w : World} {g b : Nat} {p : Option Addr} {n c : Nat} {s : Sh} (h : ShB w g b p n c s) (k : Nat) (hk : k < 18446744073709551616) :
    Calls Tryd.prog 26 #[.pointer (some ⟨g, 0, none⟩), .agg #[.int .u8 (bt (k) 0), .int .u8 (bt (k) 1), .int .u8 (bt (k) 2), .int .u8 (bt (k) 3), .int .u8 (bt (k) 4), .int .u8 (bt (k) 5), .int .u8 (bt (k) 6), .int .u8 (bt (k) 7)]] w fun e w' => e = .returned (.agg #[.int .u8 (bt ((lookC (s.low.adds (s.tail.take (s.com - s.low.ix).toNat)).cs k).getD .z0).k 0), .int .u8 (bt ((lookC (s.low.adds (s.tail.take (s.com - s.low.ix).toNat)).cs k).getD .z0).k 1), .int .u8 (bt ((lookC (s.low.adds (s.tail.take (s.com - s.low.ix).toNat)).cs k).getD .z0).k 2), .int .u8 (bt ((lookC (s.low.adds (s.tail.take (s.com - s.low.ix).toNat)).cs k).getD .z0).k 3), .int .u8 (bt ((lookC (s.low.adds (s.tail.take (s.com - s.low.ix).toNat)).cs k).getD .z0).k 4), .int .u8 (bt ((lookC (s.low.adds (s.tail.take (s.com - s.low.ix).toNat)).cs k).getD .z0).k 5), .int .u8 (bt ((lookC (s.low.adds (s.tail.take (s.com - s.low.ix).toNat)).cs k).getD .z0).k 6), .int .u8 (bt ((lookC (s.low.adds (s.tail.take (s.com - s.low.ix).toNat)).cs k).getD .z0).k 7), .int .i64 ((lookC (s.low.adds (s.tail.take (s.com - s.low.ix).toNat)).cs k).getD .z0).v, .string ((lookC (s.low.adds (s.tail.take (s.com - s.low.ix).toNat)).cs k).getD .z0).s]) ∧ Below w.heap.size w w' := by
  have hb1 := below_alloc' w (.cells #[.int .u8 (bt (k) 0), .int .u8 (bt (k) 1), .int .u8 (bt (k) 2), .int .u8 (bt (k) 3), .int .u8 (bt (k) 4), .int .u8 (bt (k) 5), .int .u8 (bt (k) 6), .int .u8 (bt (k) 7)] 28)
  have hb0 := hb1.trans ((below_alloc' (w.alloc (.cells #[.int .u8 (bt (k) 0), .int .u8 (bt (k) 1), .int .u8 (bt (k) 2), .int .u8 (bt (k) 3), .int .u8 (bt (k) 4), .int .u8 (bt (k) 5), .int .u8 (bt (k) 6), .int .u8 (bt (k) 7)] 28)) (.cells #[.int .u8 0, .int .u8 0, .int .u8 0, .int .u8 0, .int .u8 0, .int .u8 0, .int .u8 0, .int .u8 0, .int .i64 0, .string ⟨#[]⟩] 53)).mono hb1.size)
  have hs1 : (w.alloc (.cells #[.int .u8 (bt (k) 0), .int .u8 (bt (k) 1), .int .u8 (bt (k) 2), .int .u8 (bt (k) 3), .int .u8 (bt (k) 4), .int .u8 (bt (k) 5), .int .u8 (bt (k) 6), .int .u8 (bt (k) 7)] 28)).heap.size = w.heap.size + 1 := by simp
  have hKy : At 28 ((w.alloc (.cells #[.int .u8 (bt (k) 0), .int .u8 (bt (k) 1), .int .u8 (bt (k) 2), .int .u8 (bt (k) 3), .int .u8 (bt (k) 4), .int .u8 (bt (k) 5), .int .u8 (bt (k) 6), .int .u8 (bt (k) 7)] 28)).alloc (.cells #[.int .u8 0, .int .u8 0, .int .u8 0, .int .u8 0, .int .u8 0, .int .u8 0, .int .u8 0, .int .u8 0, .int .i64 0, .string ⟨#[]⟩] 53)) w.heap.size #[.int .u8 (bt (k) 0), .int .u8 (bt (k) 1), .int .u8 (bt (k) 2), .int .u8 (bt (k) 3), .int .u8 (bt (k) 4), .int .u8 (bt (k) 5), .int .u8 (bt (k) 6), .int .u8 (bt (k) 7)] := (At.new _ w _).alloc _
  have hBx : At 53 ((w.alloc (.cells #[.int .u8 (bt (k) 0), .int .u8 (bt (k) 1), .int .u8 (bt (k) 2), .int .u8 (bt (k) 3), .int .u8 (bt (k) 4), .int .u8 (bt (k) 5), .int .u8 (bt (k) 6), .int .u8 (bt (k) 7)] 28)).alloc (.cells #[.int .u8 0, .int .u8 0, .int .u8 0, .int .u8 0, .int .u8 0, .int .u8 0, .int .u8 0, .int .u8 0, .int .i64 0, .string ⟨#[]⟩] 53)) (w.heap.size + 1) #[.int .u8 0, .int .u8 0, .int .u8 0, .int .u8 0, .int .u8 0, .int .u8 0, .int .u8 0, .int .u8 0, .int .i64 0, .string ⟨#[]⟩] := by rw [← hs1]; exact At.new _ _ _
  have hSh := h.below hb0
  have hm := hSh.made
  have hln := h.len
  have hfw := h.inv.few
  have hi1 := h.inv.lo
  have hi2 := h.inv.hi
  have hcn : (s.com - s.low.ix).toNat ≤ n := by omega
  have hg4w : w.heap.size ≤ w.heap.size + 1 := Nat.le_succ _
  clear hb1 hs1 h
  go_enter Tryd.func26, Tryd.ntmps26
  go_wp2_with fail
  generalize ((w.alloc (.cells #[.int .u8 (bt (k) 0), .int .u8 (bt (k) 1), .int .u8 (bt (k) 2), .int .u8 (bt (k) 3), .int .u8 (bt (k) 4), .int .u8 (bt (k) 5), .int .u8 (bt (k) 6), .int .u8 (bt (k) 7)] 28)).alloc (.cells #[.int .u8 0, .int .u8 0, .int .u8 0, .int .u8 0, .int .u8 0, .int .u8 0, .int .u8 0, .int .u8 0, .int .i64 0, .string ⟨#[]⟩] 53)) = V0 at *
  refine hm.mono ?_
  rintro e w1 ⟨rfl, rfl⟩
  clear hm
  generalize hg4e : w.heap.size + 1 = g4 at *
  go_wp2_with fail
  have hS0 : Bl w1 w1.drew := (Below.refl _ _).drew
  refine wp_region_det [0, 1, 2, 3, 4, 5, 6, 7, 8, 9, 12] (Bl w1) (Bl w1) (by kernel_rfl) hS0 ?_
  refine wpDet_take ?vW0 (Bl.stays w1) (fun _ h => h) (i := 0) rfl (by kernel_rfl) (by kernel_rfl) (by kernel_rfl) (by kernel_rfl) (fun _ _ _ h => h) (Gives.value (by rfl) ?yW0) ?rW0
  case yW0 => (intro w' hSw; (try dsimp only at hSw); go_simp; try with_reducible rfl)
  (try simp only [Act.put, List.getElem_toArray, List.getElem_cons_zero, List.getElem_cons_succ, List.setIfInBounds_toArray, List.set_cons_zero, List.set_cons_succ])
  refine wpDet_take ?vW1 (Bl.stays w1) (fun _ h => h) (i := 1) rfl (by kernel_rfl) (by kernel_rfl) (by kernel_rfl) (by kernel_rfl) (fun _ _ _ h => h) (Gives.value (by rfl) ?yW1) ?rW1
  case yW1 => (intro w' hSw; (try dsimp only at hSw); go_simp; try with_reducible rfl)
  (try simp only [Act.put, List.getElem_toArray, List.getElem_cons_zero, List.getElem_cons_succ, List.setIfInBounds_toArray, List.set_cons_zero, List.set_cons_succ])
  refine wpDet_take ?vW2 (Bl.stays w1) (fun _ h => h) (i := 2) rfl (by kernel_rfl) (by kernel_rfl) (by kernel_rfl) (by kernel_rfl) (fun _ _ _ h => h) (Gives.value (by rfl) ?yW2) ?rW2
  case yW2 => (intro w' hSw; (try dsimp only at hSw); go_simp; try with_reducible rfl)
  (try simp only [Act.put, List.getElem_toArray, List.getElem_cons_zero, List.getElem_cons_succ, List.setIfInBounds_toArray, List.set_cons_zero, List.set_cons_succ])
  refine wpDet_take ?vW3 (Bl.stays w1) (fun _ h => h) (i := 3) rfl (by kernel_rfl) (by kernel_rfl) (by kernel_rfl) (by kernel_rfl) (fun _ _ _ h => h) (Gives.value (by rfl) ?yW3) ?rW3
  case yW3 => (intro w' hSw; obtain ⟨⟨zz0, zz1, zz2, zz3, zz4, zz5, zz6, zz7, zz8, zz9, zz10, zz11, zz12, zz13, zz14⟩, zz15, zz16⟩ := (hSh.below (show Below w1.heap.size w1 w' from hSw)).cells; (try dsimp only at hSw); go_simp; try with_reducible rfl)
  (try simp only [Act.put, List.getElem_toArray, List.getElem_cons_zero, List.getElem_cons_succ, List.setIfInBounds_toArray, List.set_cons_zero, List.set_cons_succ])
  refine wpDet_take ?vW4 (Bl.stays w1) (fun _ h => h) (i := 4) rfl (by kernel_rfl) (by kernel_rfl) (by kernel_rfl) (by kernel_rfl) (fun _ _ _ h => h) (Gives.value (by rfl) ?yW4) ?rW4
  case yW4 => (intro w' hSw; (try dsimp only at hSw); go_simp; try with_reducible rfl)
  (try simp only [Act.put, List.getElem_toArray, List.getElem_cons_zero, List.getElem_cons_succ, List.setIfInBounds_toArray, List.set_cons_zero, List.set_cons_succ])
  refine wpDet_take ?vW5 (Bl.stays w1) (fun _ h => h) (i := 5) rfl (by kernel_rfl) (by kernel_rfl) (by kernel_rfl) (by kernel_rfl) (fun _ _ _ h => h) (Gives.value (by rfl) ?yW5) ?rW5
  case yW5 => (intro w' hSw; (try dsimp only at hSw); go_simp; try with_reducible rfl)
  (try simp only [Act.put, List.getElem_toArray, List.getElem_cons_zero, List.getElem_cons_succ, List.setIfInBounds_toArray, List.set_cons_zero, List.set_cons_succ])
  refine wpDet_take ?vW6 (Bl.stays w1) (fun _ h => h) (i := 6) rfl (by kernel_rfl) (by kernel_rfl) (by kernel_rfl) (by kernel_rfl) (fun _ _ _ h => h) (Gives.value (by rfl) ?yW6) ?rW6
  case yW6 => (intro w' hSw; (try dsimp only at hSw); go_simp; try with_reducible rfl)
  (try simp only [Act.put, List.getElem_toArray, List.getElem_cons_zero, List.getElem_cons_succ, List.setIfInBounds_toArray, List.set_cons_zero, List.set_cons_succ])
  refine wpDet_take ?vW7 (Bl.stays w1) (fun _ h => h) (i := 7) rfl (by kernel_rfl) (by kernel_rfl) (by kernel_rfl) (by kernel_rfl) (fun _ _ _ h => h) (Gives.value (by rfl) ?yW7) ?rW7
  case yW7 => (intro w' hSw; obtain ⟨⟨zz0, zz1, zz2, zz3, zz4, zz5, zz6, zz7, zz8, zz9, zz10, zz11, zz12, zz13, zz14⟩, zz15, zz16⟩ := (hSh.below (show Below w1.heap.size w1 w' from hSw)).cells; (try dsimp only at hSw); go_simp; try with_reducible rfl)
  (try simp only [Act.put, List.getElem_toArray, List.getElem_cons_zero, List.getElem_cons_succ, List.setIfInBounds_toArray, List.set_cons_zero, List.set_cons_succ])
  refine wpDet_take ?vW8 (Bl.stays w1) (fun _ h => h) (i := 8) rfl (by kernel_rfl) (by kernel_rfl) (by kernel_rfl) (by kernel_rfl) (fun _ _ _ h => h) (Gives.value (by rfl) ?yW8) ?rW8
  case yW8 => (intro w' hSw; obtain ⟨⟨zz0, zz1, zz2, zz3, zz4, zz5, zz6, zz7, zz8, zz9, zz10, zz11, zz12, zz13, zz14⟩, zz15, zz16⟩ := (hSh.below (show Below w1.heap.size w1 w' from hSw)).cells; (try dsimp only at hSw); go_simp; try with_reducible rfl)
  (try simp only [Act.put, List.getElem_toArray, List.getElem_cons_zero, List.getElem_cons_succ, List.setIfInBounds_toArray, List.set_cons_zero, List.set_cons_succ])
  refine wpDet_take (.slice p (s.com - s.low.ix).toNat c) (Bl.stays w1) (fun _ h => h) (i := 9) rfl (by kernel_rfl) (by kernel_rfl) (by kernel_rfl) (by kernel_rfl) (fun _ _ _ h => h) (Gives.call 52 #[.pointer (some ⟨g, 0, none⟩), .int .i64 s.com] (by rfl) (fun _ => by first | (go_simp; done) | (go_simp; rfl)) (fun W hW => (upTo_any (hSh.below hW) s.com hSh.inv.lo hSh.inv.hi).mono fun e w' ⟨h1, h2⟩ => ⟨h1, h2⟩)) ?_
  (try simp only [Act.put, List.getElem_toArray, List.getElem_cons_zero, List.getElem_cons_succ, List.setIfInBounds_toArray, List.set_cons_zero, List.set_cons_succ])
  refine wpDet_take ?vW12 (Bl.stays w1) (fun _ h => h) (i := 12) rfl (by kernel_rfl) (by kernel_rfl) (by kernel_rfl) (by kernel_rfl) (fun _ _ _ h => h) (Gives.value (by rfl) ?yW12) ?rW12
  case yW12 => (intro w' hSw; have kk := At.below hKy (show Below w1.heap.size w1 w' from hSw); have q0 := At.cell kk 0; have q1 := At.cell kk 1; have q2 := At.cell kk 2; have q3 := At.cell kk 3; have q4 := At.cell kk 4; have q5 := At.cell kk 5; have q6 := At.cell kk 6; have q7 := At.cell kk 7; simp only [List.getElem?_toArray, List.getElem?_cons_zero, List.getElem?_cons_succ] at q0 q1 q2 q3 q4 q5 q6 q7; (try dsimp only at hSw); go_simp; try with_reducible rfl)
  (try simp only [Act.put, List.getElem_toArray, List.getElem_cons_zero, List.getElem_cons_succ, List.setIfInBounds_toArray, List.set_cons_zero, List.set_cons_succ])
  refine wpDet_ready (rs := [10]) (by kernel_rfl) (by simp) (AllDet.cons rfl (fun V hV K hK => ?_) AllDet.nil)
  rw [if_pos (by rfl)]
  have hbV := Bl.out hV
  have hC := with_any s.low b p (s.com - s.low.ix).toNat c (s.tail.take (s.com - s.low.ix).toNat) V (hSh.mp.below hbV) ((hSh.tl.rd.front hcn).below hbV) (fun x hx => hSh.inv.ok x (List.mem_of_mem_take hx)) (by omega)
  refine wp_enterX 55 #[.agg #[.int .i64 s.low.ix, .int .i64 s.low.ep, .map (some b), .int .i64 (s.low.d 0).c, .int .i64 (s.low.d 0).q, .int .i64 (s.low.d 0).v, .int .i64 (s.low.d 1).c, .int .i64 (s.low.d 1).q, .int .i64 (s.low.d 1).v, .int .i64 (s.low.d 2).c, .int .i64 (s.low.d 2).q, .int .i64 (s.low.d 2).v, .int .i64 (s.low.d 3).c, .int .i64 (s.low.d 3).q, .int .i64 (s.low.d 3).v], .slice p (s.com - s.low.ix).toNat c] (by first | (go_simp; done) | (go_simp; rfl)) (fun x W => ∃ b', x = .agg #[.int .i64 (s.low.adds (s.tail.take (s.com - s.low.ix).toNat)).ix, .int .i64 (s.low.adds (s.tail.take (s.com - s.low.ix).toNat)).ep, .map (some b'), .int .i64 ((s.low.adds (s.tail.take (s.com - s.low.ix).toNat)).d 0).c, .int .i64 ((s.low.adds (s.tail.take (s.com - s.low.ix).toNat)).d 0).q, .int .i64 ((s.low.adds (s.tail.take (s.com - s.low.ix).toNat)).d 0).v, .int .i64 ((s.low.adds (s.tail.take (s.com - s.low.ix).toNat)).d 1).c, .int .i64 ((s.low.adds (s.tail.take (s.com - s.low.ix).toNat)).d 1).q, .int .i64 ((s.low.adds (s.tail.take (s.com - s.low.ix).toNat)).d 1).v, .int .i64 ((s.low.adds (s.tail.take (s.com - s.low.ix).toNat)).d 2).c, .int .i64 ((s.low.adds (s.tail.take (s.com - s.low.ix).toNat)).d 2).q, .int .i64 ((s.low.adds (s.tail.take (s.com - s.low.ix).toNat)).d 2).v, .int .i64 ((s.low.adds (s.tail.take (s.com - s.low.ix).toNat)).d 3).c, .int .i64 ((s.low.adds (s.tail.take (s.com - s.low.ix).toNat)).d 3).q, .int .i64 ((s.low.adds (s.tail.take (s.com - s.low.ix).toNat)).d 3).v] ∧ MC W b' (s.low.adds (s.tail.take (s.com - s.low.ix).toNat)).cs ∧ V.heap.size ≤ b' ∧ Below V.heap.size V W) (hC.mono fun r w' ⟨b', h1, h2, h3, h4⟩ => ⟨_, h1, b', rfl, h2, h3, h4⟩) ?_
  rintro x7 V7 ⟨b7, rfl, hm7, hb7, hbl7⟩
  have hz7 : MW w1 b7 (s.low.adds (s.tail.take (s.com - s.low.ix).toNat)).cs V7 := ⟨Bl.stays w1 V _ hV hbl7, hm7, Nat.le_trans hbV.size hb7⟩
  refine hK.out (MW w1 b7 (s.low.adds (s.tail.take (s.com - s.low.ix).toNat)).cs) _ _ (MW.stays _ _ _) (fun _ _ h => h.1) hz7 ?_
  clear hK K hV hC hbl7 hm7 hz7 hbV hb7
  (try simp only [Act.put, List.getElem_toArray, List.getElem_cons_zero, List.getElem_cons_succ, List.setIfInBounds_toArray, List.set_cons_zero, List.set_cons_succ])
  refine wpDet_ready (rs := [11]) (by kernel_rfl) (by simp) (AllDet.cons rfl (fun V hV K hK => ?_) AllDet.nil)
  rw [if_pos (by rfl)]
  have hfs := field_sum (s.low.adds (s.tail.take (s.com - s.low.ix).toNat)) b7
  refine wp_value (.map (some b7)) V (by first | (go_simp; done) | (go_simp; rfl)) ?_
  refine hK.out (MW w1 b7 (s.low.adds (s.tail.take (s.com - s.low.ix).toNat)).cs) _ _ (MW.stays _ _ _) (fun _ _ h => h.1) hV ?_
  clear hK K hV hfs
  (try simp only [Act.put, List.getElem_toArray, List.getElem_cons_zero, List.getElem_cons_succ, List.setIfInBounds_toArray, List.set_cons_zero, List.set_cons_succ])
  refine wpDet_ready (rs := [13]) (by kernel_rfl) (by simp) (AllDet.cons rfl (fun V hV K hK => ?_) AllDet.nil)
  rw [if_pos (by rfl)]
  have hlk : (Instr.lookup 80 (.map (some b7)) (.agg #[.int .u8 (bt (k) 0), .int .u8 (bt (k) 1), .int .u8 (bt (k) 2), .int .u8 (bt (k) 3), .int .u8 (bt (k) 4), .int .u8 (bt (k) 5), .int .u8 (bt (k) 6), .int .u8 (bt (k) 7)]) false).run Tryd.prog V = .ok (.agg #[.int .u8 (bt ((lookC (s.low.adds (s.tail.take (s.com - s.low.ix).toNat)).cs k).getD .z0).k 0), .int .u8 (bt ((lookC (s.low.adds (s.tail.take (s.com - s.low.ix).toNat)).cs k).getD .z0).k 1), .int .u8 (bt ((lookC (s.low.adds (s.tail.take (s.com - s.low.ix).toNat)).cs k).getD .z0).k 2), .int .u8 (bt ((lookC (s.low.adds (s.tail.take (s.com - s.low.ix).toNat)).cs k).getD .z0).k 3), .int .u8 (bt ((lookC (s.low.adds (s.tail.take (s.com - s.low.ix).toNat)).cs k).getD .z0).k 4), .int .u8 (bt ((lookC (s.low.adds (s.tail.take (s.com - s.low.ix).toNat)).cs k).getD .z0).k 5), .int .u8 (bt ((lookC (s.low.adds (s.tail.take (s.com - s.low.ix).toNat)).cs k).getD .z0).k 6), .int .u8 (bt ((lookC (s.low.adds (s.tail.take (s.com - s.low.ix).toNat)).cs k).getD .z0).k 7), .int .i64 ((lookC (s.low.adds (s.tail.take (s.com - s.low.ix).toNat)).cs k).getD .z0).v, .string ((lookC (s.low.adds (s.tail.take (s.com - s.low.ix).toNat)).cs k).getD .z0).s]) V := hV.2.1.look hk
  refine wp_value (.agg #[.int .u8 (bt ((lookC (s.low.adds (s.tail.take (s.com - s.low.ix).toNat)).cs k).getD .z0).k 0), .int .u8 (bt ((lookC (s.low.adds (s.tail.take (s.com - s.low.ix).toNat)).cs k).getD .z0).k 1), .int .u8 (bt ((lookC (s.low.adds (s.tail.take (s.com - s.low.ix).toNat)).cs k).getD .z0).k 2), .int .u8 (bt ((lookC (s.low.adds (s.tail.take (s.com - s.low.ix).toNat)).cs k).getD .z0).k 3), .int .u8 (bt ((lookC (s.low.adds (s.tail.take (s.com - s.low.ix).toNat)).cs k).getD .z0).k 4), .int .u8 (bt ((lookC (s.low.adds (s.tail.take (s.com - s.low.ix).toNat)).cs k).getD .z0).k 5), .int .u8 (bt ((lookC (s.low.adds (s.tail.take (s.com - s.low.ix).toNat)).cs k).getD .z0).k 6), .int .u8 (bt ((lookC (s.low.adds (s.tail.take (s.com - s.low.ix).toNat)).cs k).getD .z0).k 7), .int .i64 ((lookC (s.low.adds (s.tail.take (s.com - s.low.ix).toNat)).cs k).getD .z0).v, .string ((lookC (s.low.adds (s.tail.take (s.com - s.low.ix).toNat)).cs k).getD .z0).s]) V (by first | (go_simp; done) | (go_simp; rfl)) ?_
  refine hK.out (MW w1 b7 (s.low.adds (s.tail.take (s.com - s.low.ix).toNat)).cs) _ _ (MW.stays _ _ _) (fun _ _ h => h.1) hV ?_
  clear hK K hV hlk
  (try simp only [Act.put, List.getElem_toArray, List.getElem_cons_zero, List.getElem_cons_succ, List.setIfInBounds_toArray, List.set_cons_zero, List.set_cons_succ])
  refine wpDet_ready (rs := [14]) (by kernel_rfl) (by simp) (AllDet.cons rfl (fun V hV K hK => ?_) AllDet.nil)
  rw [if_pos (by rfl)]
  have hg4 := At.below hBx (Bl.out hV.1)
  refine wp_store_row 53 _ _ rfl g4 #[.int .u8 (bt ((lookC (s.low.adds (s.tail.take (s.com - s.low.ix).toNat)).cs k).getD .z0).k 0), .int .u8 (bt ((lookC (s.low.adds (s.tail.take (s.com - s.low.ix).toNat)).cs k).getD .z0).k 1), .int .u8 (bt ((lookC (s.low.adds (s.tail.take (s.com - s.low.ix).toNat)).cs k).getD .z0).k 2), .int .u8 (bt ((lookC (s.low.adds (s.tail.take (s.com - s.low.ix).toNat)).cs k).getD .z0).k 3), .int .u8 (bt ((lookC (s.low.adds (s.tail.take (s.com - s.low.ix).toNat)).cs k).getD .z0).k 4), .int .u8 (bt ((lookC (s.low.adds (s.tail.take (s.com - s.low.ix).toNat)).cs k).getD .z0).k 5), .int .u8 (bt ((lookC (s.low.adds (s.tail.take (s.com - s.low.ix).toNat)).cs k).getD .z0).k 6), .int .u8 (bt ((lookC (s.low.adds (s.tail.take (s.com - s.low.ix).toNat)).cs k).getD .z0).k 7), .int .i64 ((lookC (s.low.adds (s.tail.take (s.com - s.low.ix).toNat)).cs k).getD .z0).v, .string ((lookC (s.low.adds (s.tail.take (s.com - s.low.ix).toNat)).cs k).getD .z0).s] rfl rfl _ _ hg4 infoCe rfl oneCe ?_
  have hz9 : CB w w.heap.size g4 ((lookC (s.low.adds (s.tail.take (s.com - s.low.ix).toNat)).cs k).getD .z0) (V.setRow g4 #[.int .u8 (bt ((lookC (s.low.adds (s.tail.take (s.com - s.low.ix).toNat)).cs k).getD .z0).k 0), .int .u8 (bt ((lookC (s.low.adds (s.tail.take (s.com - s.low.ix).toNat)).cs k).getD .z0).k 1), .int .u8 (bt ((lookC (s.low.adds (s.tail.take (s.com - s.low.ix).toNat)).cs k).getD .z0).k 2), .int .u8 (bt ((lookC (s.low.adds (s.tail.take (s.com - s.low.ix).toNat)).cs k).getD .z0).k 3), .int .u8 (bt ((lookC (s.low.adds (s.tail.take (s.com - s.low.ix).toNat)).cs k).getD .z0).k 4), .int .u8 (bt ((lookC (s.low.adds (s.tail.take (s.com - s.low.ix).toNat)).cs k).getD .z0).k 5), .int .u8 (bt ((lookC (s.low.adds (s.tail.take (s.com - s.low.ix).toNat)).cs k).getD .z0).k 6), .int .u8 (bt ((lookC (s.low.adds (s.tail.take (s.com - s.low.ix).toNat)).cs k).getD .z0).k 7), .int .i64 ((lookC (s.low.adds (s.tail.take (s.com - s.low.ix).toNat)).cs k).getD .z0).v, .string ((lookC (s.low.adds (s.tail.take (s.com - s.low.ix).toNat)).cs k).getD .z0).s]) := ⟨(hb0.trans ((Bl.out hV.1).mono hb0.size)).trans (below_setRow V g4 _ hg4w), hg4.row _, by rw [World.setRow]; simp; exact Nat.le_trans hb0.size (Bl.out hV.1).size⟩
  refine hK.out (CB w w.heap.size g4 ((lookC (s.low.adds (s.tail.take (s.com - s.low.ix).toNat)).cs k).getD .z0)) _ _ (CB.stays _ _ _ _) (no_lean (by kernel_rfl)) hz9 ?_
  clear hK K hV hg4 hz9
  (try simp only [Act.put, List.getElem_toArray, List.getElem_cons_zero, List.getElem_cons_succ, List.setIfInBounds_toArray, List.set_cons_zero, List.set_cons_succ])
  refine wpDet_done (by kernel_rfl) (fun W9 hV => ?_) _
  obtain ⟨hB9, hA9, _⟩ := hV
  go_wp2_with fail
  exact bodyPost_ret (v := .agg #[.int .u8 (bt ((lookC (s.low.adds (s.tail.take (s.com - s.low.ix).toNat)).cs k).getD .z0).k 0), .int .u8 (bt ((lookC (s.low.adds (s.tail.take (s.com - s.low.ix).toNat)).cs k).getD .z0).k 1), .int .u8 (bt ((lookC (s.low.adds (s.tail.take (s.com - s.low.ix).toNat)).cs k).getD .z0).k 2), .int .u8 (bt ((lookC (s.low.adds (s.tail.take (s.com - s.low.ix).toNat)).cs k).getD .z0).k 3), .int .u8 (bt ((lookC (s.low.adds (s.tail.take (s.com - s.low.ix).toNat)).cs k).getD .z0).k 4), .int .u8 (bt ((lookC (s.low.adds (s.tail.take (s.com - s.low.ix).toNat)).cs k).getD .z0).k 5), .int .u8 (bt ((lookC (s.low.adds (s.tail.take (s.com - s.low.ix).toNat)).cs k).getD .z0).k 6), .int .u8 (bt ((lookC (s.low.adds (s.tail.take (s.com - s.low.ix).toNat)).cs k).getD .z0).k 7), .int .i64 ((lookC (s.low.adds (s.tail.take (s.com - s.low.ix).toNat)).cs k).getD .z0).v, .string ((lookC (s.low.adds (s.tail.take (s.com - s.low.ix).toNat)).cs k).getD .z0).s]) (results_cell_row rfl _ _ g4 _ _ _ _ rfl hA9 Tryd.underlying53 rfl infoCe) rfl ⟨rfl, hB9⟩

end Go.Proofs.YtnbgdkdnlfomeaaDoor.M
