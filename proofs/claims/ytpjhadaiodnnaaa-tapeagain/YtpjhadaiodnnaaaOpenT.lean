/-
  Own text: what the form tells of an argument that is a list of calls of the statements over tapes.
-/
import Derived.Test.YtpjhadaiodnnaaaOpenV
import Derived.Test.YtpjhadaiodnnaaaRows
import Derived.Test.YtpjhadaiodnnaaaTShort
namespace Go.Proofs.Ytpjhadaiodnnaaa.M
open Go.ChangeShapes Go.WideShapes Go.ChangeAt Go.RowKit

theorem sl_cell {H : Type} {enc : TypeId × Value → H} {P : Program} {t e : TypeId} {W : World} {fuel : Nat} {v : Value} {x : DataW H × List MemPlace} (ht : P.underlying t = some (.slice e)) (h : DataW.trod enc P W 0 (fun _ => true) true fuel t [v] = some x) : ∃ a l c, v = .slice a l c := by
  rcases Deep.open_slice ht h with ⟨hcs, _⟩ | ⟨a, l, c, m, n, D, Pl, hcs, _⟩
  · injection hcs with hcs
    exact ⟨_, _, _, hcs⟩
  · injection hcs with hcs
    exact ⟨_, _, _, hcs⟩

/-- Five cells that were read as a call. -/
theorem five_tv {H : Type} {enc : TypeId × Value → H} {W : World} {fuel : Nat} {cs : List Value} {x : DataW H × List MemPlace} (hlen : cs.length = 5)
    (h : DataW.trod enc Try.prog W 0 (fun _ => true) true fuel 52 cs = some x) : ∃ z : Tv, cs = [.int .i64 z.op, .int .i64 z.n, .slice z.bq z.bl z.bc, .slice z.lq z.ll z.lc, .slice z.kq z.kl z.kc] ∧ z.rd W := by
  obtain ⟨xs, k, _, _, _, hxl, hff⟩ := DataW.trod_struct Try.underlying52 h
  have i1 : Try.prog.cellsOf 3 = 1 := by kernel_rfl
  have b1 : Try.prog.cellsOf 22 = 1 := by kernel_rfl
  have l1 : Try.prog.cellsOf 31 = 1 := by kernel_rfl
  have k1 : Try.prog.cellsOf 43 = 1 := by kernel_rfl
  have g0 : DataW.trod enc Try.prog W 0 (fun _ => true) true k 3 (List.take (Try.prog.cellsOf 3) (List.drop 0 cs)) = xs[0]? := hff 0 _ rfl
  have g1 : DataW.trod enc Try.prog W 0 (fun _ => true) true k 3 (List.take (Try.prog.cellsOf 3) (List.drop 1 cs)) = xs[1]? := hff 1 _ rfl
  have g2 : DataW.trod enc Try.prog W 0 (fun _ => true) true k 22 (List.take (Try.prog.cellsOf 22) (List.drop 2 cs)) = xs[2]? := hff 2 _ rfl
  have g3 : DataW.trod enc Try.prog W 0 (fun _ => true) true k 31 (List.take (Try.prog.cellsOf 31) (List.drop 3 cs)) = xs[3]? := hff 3 _ rfl
  have g4 : DataW.trod enc Try.prog W 0 (fun _ => true) true k 43 (List.take (Try.prog.cellsOf 43) (List.drop 4 cs)) = xs[4]? := hff 4 _ rfl
  rw [i1] at g0 g1
  rw [b1] at g2
  rw [l1] at g3
  rw [k1] at g4
  clear hff h
  have hxl5 : xs.length = 5 := hxl
  match cs, hlen, xs, hxl5 with
  | [v0, v1, v2, v3, v4], _, [y0, y1, y2, y3, y4], _ =>
    simp at g0 g1 g2 g3 g4
    obtain ⟨z0, e0, _⟩ := DataW.trod_int Try.underlying3 g0
    obtain ⟨z1, e1, _, w1⟩ := DataW.trod_int Try.underlying3 g1
    obtain ⟨a2, l2, c2, e2⟩ := sl_cell Try.underlying22 g2
    obtain ⟨a3, l3, c3, e3⟩ := sl_cell Try.underlying31 g3
    obtain ⟨a4, l4, c4, e4⟩ := sl_cell Try.underlying43 g4
    simp at e0 e1
    subst e0 e1 e2 e3 e4
    obtain ⟨xb, rb, wb⟩ := open_rd (d := y2.1) (p := y2.2) Try.underlying22 Try.underlying5 (by kernel_rfl) ⟨k, g2⟩
    obtain ⟨us, xl, rl, sl, _, bl⟩ := open_slices (d := y3.1) (p := y3.2) Try.underlying31 Try.underlying22 Try.underlying5 (by kernel_rfl) (by kernel_rfl) ⟨k, g3⟩
    obtain ⟨xk, rk, _⟩ := open_rd (d := y4.1) (p := y4.2) Try.underlying43 Try.underlying3 (by kernel_rfl) ⟨k, g4⟩
    have hbn := i64_bounds w1
    exact ⟨⟨z0, z1, a2, l2, c2, a3, l3, c3, a4, l4, c4, xb, us, xl, xk⟩, rfl, rb, rl, sl, rk, ⟨hbn.1, hbn.2⟩, by_of_wf wb, bl⟩

theorem open_tvs {H : Type} {enc : TypeId × Value → H} {W : World} {a : Option Addr} {len cap : Nat} {d : DataW H} {pl : List MemPlace}
    (h : DataW.Trod enc Try.prog W 0 (fun _ => true) true 42 (.slice a len cap) d pl) : ∃ ls, RdT W a len ls := by
  obtain ⟨fuel, hf⟩ := h
  have hce : Try.prog.cellsOf 52 = 5 := by kernel_rfl
  rcases Deep.open_slice Try.underlying42 hf with ⟨hcs, _⟩ | ⟨ad, l, c, m, n, D, Pl, hcs, _, hl, hm, hmm, hxe, hx⟩
  · injection hcs with hcs
    injection hcs with e1 e2 e3
    subst e1 e2 e3
    exact ⟨[], rfl, fun h => absurd h (Nat.lt_irrefl _), fun j hj => absurd hj (Nat.not_lt_zero _)⟩
  · injection hcs with hcs
    injection hcs with e1 e2 e3
    subst e1 e2 e3
    simp only [if_true] at hmm
    subst hmm
    have each : ∀ i, i < m → ∃ z : Tv, W.cell? (ad.add (i * 5)) = some (.int .i64 z.op) ∧ W.cell? (ad.add (i * 5 + 1)) = some (.int .i64 z.n) ∧ W.cell? (ad.add (i * 5 + 2)) = some (.slice z.bq z.bl z.bc) ∧ W.cell? (ad.add (i * 5 + 3)) = some (.slice z.lq z.ll z.lc) ∧ W.cell? (ad.add (i * 5 + 4)) = some (.slice z.kq z.kl z.kc) ∧ z.rd W := by
      intro i hi
      obtain ⟨cs', h1, h2⟩ := hx i hi
      rw [hce] at h1
      obtain ⟨_, hlen, hcell⟩ := World.cells?_some h1
      obtain ⟨z, e, hr⟩ := five_tv hlen h2
      subst e
      have q0 := hcell 0 (by omega)
      have q1 := hcell 1 (by omega)
      have q2 := hcell 2 (by omega)
      have q3 := hcell 3 (by omega)
      have q4 := hcell 4 (by omega)
      rw [Deep.add_add] at q0 q1 q2 q3 q4
      exact ⟨z, by simpa using q0, by simpa using q1, by simpa using q2, by simpa using q3, by simpa using q4, hr⟩
    obtain ⟨f, hfv⟩ := @Deep.choose_lt Tv ⟨.z0⟩ _ _ each
    have e : ∀ i, i < len → ((List.range len).map f).getD i .z0 = f i := fun i hi => by rw [List.getD_eq_getElem?_getD, List.getElem?_map, List.getElem?_range hi]; rfl
    refine ⟨(List.range len).map f, by simp, fun hn => ?_, fun j hj => by rw [e j hj]; exact (hfv j (by omega)).2.2.2.2.2⟩
    obtain ⟨b, o, spot⟩ := ad
    have h0 := (hfv 0 (by omega)).1
    have hspot : spot = none := by simpa [Addr.add] using World.cell?_spot h0
    subst hspot
    refine ⟨b, o, rfl, fun i hi => ?_⟩
    obtain ⟨k0, k1, k2, k3, k4, _⟩ := hfv i (by omega)
    rw [Addr.add_lit] at k0 k1 k2 k3 k4
    rw [e i hi]
    exact ⟨k0, by rw [Nat.add_assoc]; exact k1, by rw [Nat.add_assoc]; exact k2, by rw [Nat.add_assoc]; exact k3, by rw [Nat.add_assoc]; exact k4⟩

end Go.Proofs.Ytpjhadaiodnnaaa.M
