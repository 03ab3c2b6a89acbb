/-
  Own text: an order of few calls with one write at most: the contract of Order.
-/
import Derived.Test.YtmfmjoibofadlaaONw
namespace Go.Proofs.Ytmfmjoibofadlaa.M
open Go.ChangeShapes Go.WideShapes Go.ChangeAt Go.RowKit Go.ChangeMaps Go.MapKept Go.Maps
set_option linter.unusedSimpArgs false

/-- A search of these calls, wherever it lies. -/
def srO (L : List Lo) (n : Nat) : Sr := ⟨0, none, n, 0, none, 0, L, musN L n, ahL L, none, 0, 0, rdF L n, none, 0, 0, wrF L n, 0, 0⟩

theorem foundF_eq {s t : Sr} (h1 : s.L = t.L) (h2 : s.n = t.n) (h3 : s.mu = t.mu) (h4 : s.ah = t.ah) (h5 : s.R = t.R) (h6 : s.S = t.S) : ∀ (m : Nat) (K : List (Nat × ByteArray)) (row : List Int) (d : Nat) (v : ByteArray), foundF s m K row d v = foundF t m K row d v
  | 0, _, _, _, _ => rfl
  | m + 1, K, row, d, v => by
    unfold foundF
    rw [h1, h2, h3, h4, h5, h6]
    have e : (fun K' row' i => foundF s m K' row' (d ||| bitN i) (t.L.getD i.toNat .z0).s) = (fun K' row' i => foundF t m K' row' (d ||| bitN i) (t.L.getD i.toNat .z0).s) := by
      funext K' row' i
      exact foundF_eq h1 h2 h3 h4 h5 h6 m K' row' _ _
    rw [e]

set_option maxRecDepth 20000 in
set_option maxHeartbeats 2000000 in
theorem order_any (p : Option Addr) (n c : Nat) (L : List Lo) (w : World) (hr : RdO w p n c L) (h0 : 0 < n) (hn : n ≤ 24) (h1 : (wrF L n).length ≤ 1) (hs : ∀ i, (L.getD i .z0).s.size ≤ 24) (hR : rightO L = 0) (m : Nat) (hm : m ≤ 900) (r : Bool) (K' : List (Nat × ByteArray)) (row' : List Int) (hF : foundF (srO L n) m [] [] 0 ⟨#[]⟩ = some (r, K', row')) :
    Calls Try.prog 13 #[.slice p n c] w fun e w' => ∃ q k d, e = .returned (.tuple #[.slice q k d, .bool r, .int .i64 0]) ∧ (r = true → Rd .i64 w' q k d row' ∧ ∀ a, q = some a → w.heap.size ≤ a.block) ∧ Below w.heap.size w w' := by
  have hRt := right_any p n c L w hr
  rw [hR] at hRt
  have hN := fun W (hW : Below w.heap.size w W) => newSearch_any p n c L W (hr.below hW) h0 hn h1 hs
  clear hr h1 hs hR
  go_enter Try.func13, Try.ntmps13
  go_wp2_with fail
  refine hRt.mono ?_
  rintro e1 w1 ⟨rfl, hb1⟩
  clear hRt
  go_wp2_with fail
  refine (hN w1 hb1).mono ?_
  rintro e2 w2 ⟨g, rfl, hNS, hb2⟩
  have hbb2 := hb1.trans (hb2.mono hb1.size)
  clear hN hb2
  obtain ⟨s, rfl, hok, hSt, ⟨f1, f2, f3, f4, f5, f6⟩, hh, hmb⟩ := hNS
  have hFs : foundF s m [] [] 0 ⟨#[]⟩ = some (r, K', row') := by
    rw [foundF_eq (t := srO L n) f1 f2 f3 f4 f5 f6]; exact hF
  have hC := found_any s hok m [] [] 0 ⟨#[]⟩ r K' row' w2 none 0 0 hFs (by decide) (by decide) (by omega) hSt
  go_wp2_with fail
  refine hC.mono ?_
  rintro e3 w3 ⟨x, rfl, rfl, pr, nr, cr, hSt3, hfm⟩
  have hbb3 : Below w.heap.size w w3 := hbb2.trans (hfm.1.below hbb2.size (fun k e => by
    have hs1 := hb1.size
    rcases e with e | e | ⟨a, ha, _⟩
    · omega
    · omega
    · cases ha))
  have c6 := hSt3.c6
  have hrd : Rd .i64 w3 pr nr cr row' ∧ ∀ a, pr = some a → w.heap.size ≤ a.block := ⟨hSt3.own.rd, fun a ha => by
    have q1 := (hSt3.own.lt ha).1
    have q2 := hok.hB
    have q3 := hb1.size
    omega⟩
  clear hC hSt hSt3 hFs hF hfm hbb2
  cases r with
  | true =>
    go_wp2_with fail
    exact bodyPost_ret (v := .tuple #[.slice pr nr cr, .bool true, .int .i64 0]) (by simp [results, Try.results13, go_sem]) rfl (by first | exact ⟨pr, nr, cr, rfl, hrd, hbb3⟩ | exact ⟨pr, nr, cr, rfl, fun _ => hrd, hbb3⟩)
  | false =>
    go_wp2_with fail
    exact bodyPost_ret (v := .tuple #[.slice none 0 0, .bool false, .int .i64 0]) (by simp [results, Try.results13, go_sem]) rfl (by first | exact ⟨none, 0, 0, rfl, hbb3⟩ | exact ⟨none, 0, 0, rfl, (fun h => absurd h (by decide)), hbb3⟩)

end Go.Proofs.Ytmfmjoibofadlaa.M
