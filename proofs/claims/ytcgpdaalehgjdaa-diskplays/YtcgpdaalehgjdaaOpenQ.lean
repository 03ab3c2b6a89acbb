/-
  Own text: what the form tells of arguments that are calls of the statements over disks, and lists of them.
-/
import Derived.Test.YtcgpdaalehgjdaaOpenDo
import Derived.Test.YtcgpdaalehgjdaaDRun
namespace Go.Proofs.Ytcgpdaalehgjdaa.M
open Go.ChangeShapes Go.WideShapes Go.ChangeAt Go.RowKit

/-- Five cells that were read as a call. -/
theorem five_do {H : Type} {enc : TypeId × Value → H} {W : World} {fuel : Nat} {cs : List Value} {x : DataW H × List MemPlace} (hlen : cs.length = 5)
    (h : DataW.trod enc Try.prog W 0 (fun _ => true) true fuel 35 cs = some x) : ∃ z : Dv, cs = [.int .i64 z.op, .int .i64 z.i, .int .i64 z.n, .slice z.bq z.bl z.bc, .slice z.kq z.kl z.kc] ∧ z.rd W := by
  obtain ⟨xs, k, _, _, _, hxl, hff⟩ := DataW.trod_struct Try.underlying35 h
  have i1 : Try.prog.cellsOf 3 = 1 := by kernel_rfl
  have b1 : Try.prog.cellsOf 32 = 1 := by kernel_rfl
  have k1 : Try.prog.cellsOf 33 = 1 := by kernel_rfl
  have g0 : DataW.trod enc Try.prog W 0 (fun _ => true) true k 3 (List.take (Try.prog.cellsOf 3) (List.drop 0 cs)) = xs[0]? := hff 0 _ rfl
  have g1 : DataW.trod enc Try.prog W 0 (fun _ => true) true k 3 (List.take (Try.prog.cellsOf 3) (List.drop 1 cs)) = xs[1]? := hff 1 _ rfl
  have g2 : DataW.trod enc Try.prog W 0 (fun _ => true) true k 3 (List.take (Try.prog.cellsOf 3) (List.drop 2 cs)) = xs[2]? := hff 2 _ rfl
  have g3 : DataW.trod enc Try.prog W 0 (fun _ => true) true k 32 (List.take (Try.prog.cellsOf 32) (List.drop 3 cs)) = xs[3]? := hff 3 _ rfl
  have g4 : DataW.trod enc Try.prog W 0 (fun _ => true) true k 33 (List.take (Try.prog.cellsOf 33) (List.drop 4 cs)) = xs[4]? := hff 4 _ rfl
  rw [i1] at g0 g1 g2
  rw [b1] at g3
  rw [k1] at g4
  clear hff h
  have hxl5 : xs.length = 5 := hxl
  match cs, hlen, xs, hxl5 with
  | [v0, v1, v2, v3, v4], _, [y0, y1, y2, y3, y4], _ =>
    simp at g0 g1 g2 g3 g4
    obtain ⟨z0, e0, _⟩ := DataW.trod_int Try.underlying3 g0
    obtain ⟨z1, e1, _⟩ := DataW.trod_int Try.underlying3 g1
    obtain ⟨z2, e2, _, w2⟩ := DataW.trod_int Try.underlying3 g2
    obtain ⟨a3, l3, c3, e3⟩ := sl_cell Try.underlying32 g3
    obtain ⟨a4, l4, c4, e4⟩ := sl_cell Try.underlying33 g4
    simp at e0 e1 e2
    subst e0 e1 e2 e3 e4
    obtain ⟨xb, rb, wb⟩ := open_rd (d := y3.1) (p := y3.2) Try.underlying32 Try.underlying5 (by kernel_rfl) ⟨k, g3⟩
    obtain ⟨xk, rk, _⟩ := open_rd (d := y4.1) (p := y4.2) Try.underlying33 Try.underlying3 (by kernel_rfl) ⟨k, g4⟩
    exact ⟨⟨z0, z1, z2, a3, l3, c3, a4, l4, c4, xb, xk⟩, rfl, rb, rk, (i64_bounds w2).2, by_of_wf wb⟩

theorem open_dq {H : Type} {enc : TypeId × Value → H} {W : World} {v : Value} {d : DataW H} {p : List MemPlace}
    (h : DataW.Trod enc Try.prog W 0 (fun _ => true) true 35 v d p) : ∃ op i n bq bl bc kq kl kc xb xk, v = .agg #[.int .i64 op, .int .i64 i, .int .i64 n, .slice bq bl bc, .slice kq kl kc] ∧ (⟨op, i, n, bq, bl, bc, kq, kl, kc, xb, xk⟩ : Dv).rd W := by
  obtain ⟨op, i, n, bq, bl, bc, kq, kl, kc, rfl⟩ := open_do h
  obtain ⟨fuel, hf⟩ := h
  obtain ⟨z, e, hr⟩ := five_do rfl hf
  simp [Value.cells] at e
  obtain ⟨e0, e1, e2, ⟨e3, e4, e5⟩, e6, e7, e8⟩ := e
  obtain ⟨z0, z1, z2, z3, z4, z5, z6, z7, z8, zb, zk⟩ := z
  dsimp only at e0 e1 e2 e3 e4 e5 e6 e7 e8
  subst e0 e1 e2 e3 e4 e5 e6 e7 e8
  exact ⟨_, _, _, _, _, _, _, _, _, zb, zk, rfl, hr⟩

theorem open_dqs {H : Type} {enc : TypeId × Value → H} {W : World} {a : Option Addr} {len cap : Nat} {d : DataW H} {pl : List MemPlace}
    (h : DataW.Trod enc Try.prog W 0 (fun _ => true) true 22 (.slice a len cap) d pl) : ∃ ls, RdQ W a len cap ls := by
  obtain ⟨fuel, hf⟩ := h
  have hce : Try.prog.cellsOf 35 = 5 := by kernel_rfl
  rcases Deep.open_slice Try.underlying22 hf with ⟨hcs, _⟩ | ⟨ad, l, c, m, n, D, Pl, hcs, _, hl, hm, hmm, hxe, hx⟩
  · injection hcs with hcs
    injection hcs with e1 e2 e3
    subst e1 e2 e3
    exact ⟨[], rfl, fun h => absurd h (Nat.lt_irrefl _), fun j hj => absurd hj (Nat.not_lt_zero _)⟩
  · injection hcs with hcs
    injection hcs with e1 e2 e3
    subst e1 e2 e3
    simp only [if_true] at hmm
    subst hmm
    have each : ∀ i, i < m → ∃ z : Dv, W.cell? (ad.add (i * 5)) = some (.int .i64 z.op) ∧ W.cell? (ad.add (i * 5 + 1)) = some (.int .i64 z.i) ∧ W.cell? (ad.add (i * 5 + 2)) = some (.int .i64 z.n) ∧ W.cell? (ad.add (i * 5 + 3)) = some (.slice z.bq z.bl z.bc) ∧ W.cell? (ad.add (i * 5 + 4)) = some (.slice z.kq z.kl z.kc) ∧ z.rd W := by
      intro i hi
      obtain ⟨cs', h1, h2⟩ := hx i hi
      rw [hce] at h1
      obtain ⟨_, hlen, hcell⟩ := World.cells?_some h1
      obtain ⟨z, e, hr⟩ := five_do hlen h2
      subst e
      have q0 := hcell 0 (by omega)
      have q1 := hcell 1 (by omega)
      have q2 := hcell 2 (by omega)
      have q3 := hcell 3 (by omega)
      have q4 := hcell 4 (by omega)
      rw [Deep.add_add] at q0 q1 q2 q3 q4
      exact ⟨z, by simpa using q0, by simpa using q1, by simpa using q2, by simpa using q3, by simpa using q4, hr⟩
    obtain ⟨f, hfv⟩ := @Deep.choose_lt Dv ⟨.z0⟩ _ _ each
    have e : ∀ i, i < len → ((List.range len).map f).getD i .z0 = f i := fun i hi => by rw [List.getD_eq_getElem?_getD, List.getElem?_map, List.getElem?_range hi]; rfl
    refine ⟨(List.range len).map f, by simp, fun hn => ?_, fun j hj => by rw [e j hj]; exact (hfv j (by omega)).2.2.2.2.2⟩
    obtain ⟨b, o, spot⟩ := ad
    have h0 := (hfv 0 (by omega)).1
    have hspot : spot = none := by simpa [Addr.add] using World.cell?_spot h0
    subst hspot
    refine ⟨b, o, rfl, fun i hi => ?_⟩
    obtain ⟨k0, k1, k2, k3, k4, _⟩ := hfv i (by omega)
    rw [Addr.add_lit] at k0 k1 k2 k3 k4
    rw [e i hi]
    exact ⟨k0, by rw [Nat.add_assoc]; exact k1, by rw [Nat.add_assoc]; exact k2, by rw [Nat.add_assoc]; exact k3, by rw [Nat.add_assoc]; exact k4⟩

end Go.Proofs.Ytcgpdaalehgjdaa.M
