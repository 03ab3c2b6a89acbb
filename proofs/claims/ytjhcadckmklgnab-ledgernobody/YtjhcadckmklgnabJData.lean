/-
  Own text: the contract of data.
-/
import Derived.Test.YtjhcadckmklgnabJDo
namespace Go.Proofs.Ytjhcadckmklgnab.M
open Go.ChangeShapes Go.WideShapes Go.ChangeAt Go.RowKit

set_option maxRecDepth 20000 in
set_option maxHeartbeats 2000000 in
theorem data_in_ok (k n s e : Int) (bq : Option Addr) (bl bc : Nat) (by_ off : Int) (b : List Int) (ep : Int) (hep : 0 ≤ ep ∧ ep ≤ 1099511627776) (w : World) (h1 : -4 < off) (h2 : off < 4) (hc : cmdOk k n s (ep + off) = true) :
    Calls Try.prog 9 #[.agg #[.int .i64 k, .int .i64 n, .int .i64 s, .int .i64 e, .slice bq bl bc, .bool false, .int .i64 by_, .int .i64 off], .int .i64 ep] w fun o w' => ∃ v, o = .returned v ∧ Dat w w' ⟨k, n, s, e, bq, bl, bc, false, by_, off, b⟩ ep v ∧ Below w.heap.size w w' := by
  have hba := below_alloc w (.cells #[.int .i64 k, .int .i64 n, .int .i64 s, .int .i64 e, .slice bq bl bc, .bool false, .int .i64 by_, .int .i64 off] 26)
  have hbb := below_alloc (w.alloc (.cells #[.int .i64 k, .int .i64 n, .int .i64 s, .int .i64 e, .slice bq bl bc, .bool false, .int .i64 by_, .int .i64 off] 26)) (.cells #[.int .i64 k, .int .i64 n, .int .i64 s, .int .i64 (ep + off)] 23)
  have hB0 := hba.trans (hbb.mono hba.size)
  have hE : epR ⟨k, n, s, e, bq, bl, bc, false, by_, off, b⟩ ep = (ep + off) := if_pos ⟨h1, h2⟩
  have hDR : dataR ⟨k, n, s, e, bq, bl, bc, false, by_, off, b⟩ ep = putAll [k, n, s, (ep + off)] := by
    unfold dataR
    rw [if_neg (show ¬ false = true by decide), hE]
    exact if_pos hc
  have HD : Hid (dataR ⟨k, n, s, e, bq, bl, bc, false, by_, off, b⟩ ep = putAll [k, n, s, (ep + off)]) := hDR
  have hsz : ((w.alloc (.cells #[.int .i64 k, .int .i64 n, .int .i64 s, .int .i64 e, .slice bq bl bc, .bool false, .int .i64 by_, .int .i64 off] 26)).alloc (.cells #[.int .i64 k, .int .i64 n, .int .i64 s, .int .i64 (ep + off)] 23)).heap.size = w.heap.size + 2 := by simp
  have hB1 : Below w.heap.size w ((w.alloc (.cells #[.int .i64 k, .int .i64 n, .int .i64 s, .int .i64 e, .slice bq bl bc, .bool false, .int .i64 by_, .int .i64 off] 26)).alloc (.cells #[.int .i64 k, .int .i64 n, .int .i64 s, .int .i64 (ep + off)] 23)) := hB0
  have g1 := fun W => rPut_ok k n s (ep + off) W hc
  have hlen : (putAll [k, n, s, (ep + off)]).length ≤ 40 := by have hl := cmd_lim hc; exact putAll_len (l := [k, n, s, (ep + off)]) (by intro x hx; simp only [List.mem_cons, List.not_mem_nil, or_false] at hx; rcases hx with rfl | rfl | rfl | rfl <;> omega)
  have d1 : decide (-4 < off) = true := decide_eq_true h1
  have d2 : decide (off < 4) = true := decide_eq_true h2
  have hw : IntKind.i64.wrap (ep + off) = ep + off := by rw [IntKind.wrap_i64]; omega
  clear h1 h2
  clear hDR hE hc hba hbb
  go_enter Try.func9, Try.ntmps9
  go_wp2_with fail
  refine (g1 _).mono ?_
  rintro o w3 ⟨v, rfl, p3, c3, rfl, ho, hb3⟩
  have hfar := ho.far
  have hrd := ho.rd
  obtain ⟨L, HL⟩ : ∃ L, Hid (putAll [k, n, s, (ep + off)] = L) := ⟨_, rfl⟩
  rw [HL.out] at hrd hfar hlen HD ⊢
  have hBy : By L := by rw [← HL.out]; exact putAll_by _
  have hs1 := hB1.size
  clear ho g1 HL
  go_wp2_with fail
  go_ret
  exact ⟨_, rfl, ⟨_, _, _, rfl, by rw [HD.out]; exact hrd, by rw [HD.out]; exact hBy, Or.inr hlen, fun a ha h0 => Or.inr (Nat.le_trans hs1 (hfar a ha h0))⟩, hB1.trans (hb3.mono hs1)⟩

set_option maxRecDepth 20000 in
set_option maxHeartbeats 2000000 in
theorem data_in_no (k n s e : Int) (bq : Option Addr) (bl bc : Nat) (by_ off : Int) (b : List Int) (ep : Int) (hep : 0 ≤ ep ∧ ep ≤ 1099511627776) (w : World) (h1 : -4 < off) (h2 : off < 4) (hc : cmdOk k n s (ep + off) = false) :
    Calls Try.prog 9 #[.agg #[.int .i64 k, .int .i64 n, .int .i64 s, .int .i64 e, .slice bq bl bc, .bool false, .int .i64 by_, .int .i64 off], .int .i64 ep] w fun o w' => ∃ v, o = .returned v ∧ Dat w w' ⟨k, n, s, e, bq, bl, bc, false, by_, off, b⟩ ep v ∧ Below w.heap.size w w' := by
  have hba := below_alloc w (.cells #[.int .i64 k, .int .i64 n, .int .i64 s, .int .i64 e, .slice bq bl bc, .bool false, .int .i64 by_, .int .i64 off] 26)
  have hbb := below_alloc (w.alloc (.cells #[.int .i64 k, .int .i64 n, .int .i64 s, .int .i64 e, .slice bq bl bc, .bool false, .int .i64 by_, .int .i64 off] 26)) (.cells #[.int .i64 k, .int .i64 n, .int .i64 s, .int .i64 (ep + off)] 23)
  have hB0 := hba.trans (hbb.mono hba.size)
  have hE : epR ⟨k, n, s, e, bq, bl, bc, false, by_, off, b⟩ ep = (ep + off) := if_pos ⟨h1, h2⟩
  have hDR : dataR ⟨k, n, s, e, bq, bl, bc, false, by_, off, b⟩ ep = [] := by
    unfold dataR
    rw [if_neg (show ¬ false = true by decide), hE]
    exact if_neg (fun h => by rw [hc] at h; cases h)
  have HD : Hid (dataR ⟨k, n, s, e, bq, bl, bc, false, by_, off, b⟩ ep = []) := hDR
  have hsz : ((w.alloc (.cells #[.int .i64 k, .int .i64 n, .int .i64 s, .int .i64 e, .slice bq bl bc, .bool false, .int .i64 by_, .int .i64 off] 26)).alloc (.cells #[.int .i64 k, .int .i64 n, .int .i64 s, .int .i64 (ep + off)] 23)).heap.size = w.heap.size + 2 := by simp
  have hB1 : Below w.heap.size w ((w.alloc (.cells #[.int .i64 k, .int .i64 n, .int .i64 s, .int .i64 e, .slice bq bl bc, .bool false, .int .i64 by_, .int .i64 off] 26)).alloc (.cells #[.int .i64 k, .int .i64 n, .int .i64 s, .int .i64 (ep + off)] 23)) := hB0
  have g1 := fun W => rPut_no k n s (ep + off) W hc
  have d1 : decide (-4 < off) = true := decide_eq_true h1
  have d2 : decide (off < 4) = true := decide_eq_true h2
  have hw : IntKind.i64.wrap (ep + off) = ep + off := by rw [IntKind.wrap_i64]; omega
  clear h1 h2
  clear hDR hE hc hba hbb
  go_enter Try.func9, Try.ntmps9
  go_wp2_with fail
  refine (g1 _).mono ?_
  rintro o w3 ⟨rfl, hb3⟩
  have hs1 := hB1.size
  clear g1
  go_wp2_with fail
  go_ret
  exact ⟨_, rfl, ⟨_, _, _, rfl, by rw [HD.out]; exact Rd.empty _ _ _ _ (fun _ => rfl), by rw [HD.out]; exact By.nil, Or.inr (Nat.zero_le _), fun a ha h0 => absurd h0 (Nat.lt_irrefl _)⟩, hB1.trans (hb3.mono hs1)⟩

set_option maxRecDepth 20000 in
set_option maxHeartbeats 2000000 in
theorem data_up_ok (k n s e : Int) (bq : Option Addr) (bl bc : Nat) (by_ off : Int) (b : List Int) (ep : Int) (_hep : 0 ≤ ep ∧ ep ≤ 1099511627776) (w : World) (h1 : -4 < off) (h2 : ¬ off < 4) (hc : cmdOk k n s e = true) :
    Calls Try.prog 9 #[.agg #[.int .i64 k, .int .i64 n, .int .i64 s, .int .i64 e, .slice bq bl bc, .bool false, .int .i64 by_, .int .i64 off], .int .i64 ep] w fun o w' => ∃ v, o = .returned v ∧ Dat w w' ⟨k, n, s, e, bq, bl, bc, false, by_, off, b⟩ ep v ∧ Below w.heap.size w w' := by
  have hba := below_alloc w (.cells #[.int .i64 k, .int .i64 n, .int .i64 s, .int .i64 e, .slice bq bl bc, .bool false, .int .i64 by_, .int .i64 off] 26)
  have hbb := below_alloc (w.alloc (.cells #[.int .i64 k, .int .i64 n, .int .i64 s, .int .i64 e, .slice bq bl bc, .bool false, .int .i64 by_, .int .i64 off] 26)) (.cells #[.int .i64 k, .int .i64 n, .int .i64 s, .int .i64 e] 23)
  have hB0 := hba.trans (hbb.mono hba.size)
  have hE : epR ⟨k, n, s, e, bq, bl, bc, false, by_, off, b⟩ ep = e := if_neg (fun h => h2 h.2)
  have hDR : dataR ⟨k, n, s, e, bq, bl, bc, false, by_, off, b⟩ ep = putAll [k, n, s, e] := by
    unfold dataR
    rw [if_neg (show ¬ false = true by decide), hE]
    exact if_pos hc
  have HD : Hid (dataR ⟨k, n, s, e, bq, bl, bc, false, by_, off, b⟩ ep = putAll [k, n, s, e]) := hDR
  have hsz : ((w.alloc (.cells #[.int .i64 k, .int .i64 n, .int .i64 s, .int .i64 e, .slice bq bl bc, .bool false, .int .i64 by_, .int .i64 off] 26)).alloc (.cells #[.int .i64 k, .int .i64 n, .int .i64 s, .int .i64 e] 23)).heap.size = w.heap.size + 2 := by simp
  have hB1 : Below w.heap.size w ((w.alloc (.cells #[.int .i64 k, .int .i64 n, .int .i64 s, .int .i64 e, .slice bq bl bc, .bool false, .int .i64 by_, .int .i64 off] 26)).alloc (.cells #[.int .i64 k, .int .i64 n, .int .i64 s, .int .i64 e] 23)) := hB0
  have g1 := fun W => rPut_ok k n s e W hc
  have hlen : (putAll [k, n, s, e]).length ≤ 40 := by have hl := cmd_lim hc; exact putAll_len (l := [k, n, s, e]) (by intro x hx; simp only [List.mem_cons, List.not_mem_nil, or_false] at hx; rcases hx with rfl | rfl | rfl | rfl <;> omega)
  have d1 : decide (-4 < off) = true := decide_eq_true h1
  have d2 : decide (off < 4) = false := decide_eq_false h2
  clear h1
  clear hDR hE hc hba hbb
  go_enter Try.func9, Try.ntmps9
  go_wp2_with fail
  refine (g1 _).mono ?_
  rintro o w3 ⟨v, rfl, p3, c3, rfl, ho, hb3⟩
  have hfar := ho.far
  have hrd := ho.rd
  obtain ⟨L, HL⟩ : ∃ L, Hid (putAll [k, n, s, e] = L) := ⟨_, rfl⟩
  rw [HL.out] at hrd hfar hlen HD ⊢
  have hBy : By L := by rw [← HL.out]; exact putAll_by _
  have hs1 := hB1.size
  clear ho g1 HL
  go_wp2_with fail
  go_ret
  exact ⟨_, rfl, ⟨_, _, _, rfl, by rw [HD.out]; exact hrd, by rw [HD.out]; exact hBy, Or.inr hlen, fun a ha h0 => Or.inr (Nat.le_trans hs1 (hfar a ha h0))⟩, hB1.trans (hb3.mono hs1)⟩

set_option maxRecDepth 20000 in
set_option maxHeartbeats 2000000 in
theorem data_up_no (k n s e : Int) (bq : Option Addr) (bl bc : Nat) (by_ off : Int) (b : List Int) (ep : Int) (_hep : 0 ≤ ep ∧ ep ≤ 1099511627776) (w : World) (h1 : -4 < off) (h2 : ¬ off < 4) (hc : cmdOk k n s e = false) :
    Calls Try.prog 9 #[.agg #[.int .i64 k, .int .i64 n, .int .i64 s, .int .i64 e, .slice bq bl bc, .bool false, .int .i64 by_, .int .i64 off], .int .i64 ep] w fun o w' => ∃ v, o = .returned v ∧ Dat w w' ⟨k, n, s, e, bq, bl, bc, false, by_, off, b⟩ ep v ∧ Below w.heap.size w w' := by
  have hba := below_alloc w (.cells #[.int .i64 k, .int .i64 n, .int .i64 s, .int .i64 e, .slice bq bl bc, .bool false, .int .i64 by_, .int .i64 off] 26)
  have hbb := below_alloc (w.alloc (.cells #[.int .i64 k, .int .i64 n, .int .i64 s, .int .i64 e, .slice bq bl bc, .bool false, .int .i64 by_, .int .i64 off] 26)) (.cells #[.int .i64 k, .int .i64 n, .int .i64 s, .int .i64 e] 23)
  have hB0 := hba.trans (hbb.mono hba.size)
  have hE : epR ⟨k, n, s, e, bq, bl, bc, false, by_, off, b⟩ ep = e := if_neg (fun h => h2 h.2)
  have hDR : dataR ⟨k, n, s, e, bq, bl, bc, false, by_, off, b⟩ ep = [] := by
    unfold dataR
    rw [if_neg (show ¬ false = true by decide), hE]
    exact if_neg (fun h => by rw [hc] at h; cases h)
  have HD : Hid (dataR ⟨k, n, s, e, bq, bl, bc, false, by_, off, b⟩ ep = []) := hDR
  have hsz : ((w.alloc (.cells #[.int .i64 k, .int .i64 n, .int .i64 s, .int .i64 e, .slice bq bl bc, .bool false, .int .i64 by_, .int .i64 off] 26)).alloc (.cells #[.int .i64 k, .int .i64 n, .int .i64 s, .int .i64 e] 23)).heap.size = w.heap.size + 2 := by simp
  have hB1 : Below w.heap.size w ((w.alloc (.cells #[.int .i64 k, .int .i64 n, .int .i64 s, .int .i64 e, .slice bq bl bc, .bool false, .int .i64 by_, .int .i64 off] 26)).alloc (.cells #[.int .i64 k, .int .i64 n, .int .i64 s, .int .i64 e] 23)) := hB0
  have g1 := fun W => rPut_no k n s e W hc
  have d1 : decide (-4 < off) = true := decide_eq_true h1
  have d2 : decide (off < 4) = false := decide_eq_false h2
  clear h1
  clear hDR hE hc hba hbb
  go_enter Try.func9, Try.ntmps9
  go_wp2_with fail
  refine (g1 _).mono ?_
  rintro o w3 ⟨rfl, hb3⟩
  have hs1 := hB1.size
  clear g1
  go_wp2_with fail
  go_ret
  exact ⟨_, rfl, ⟨_, _, _, rfl, by rw [HD.out]; exact Rd.empty _ _ _ _ (fun _ => rfl), by rw [HD.out]; exact By.nil, Or.inr (Nat.zero_le _), fun a ha h0 => absurd h0 (Nat.lt_irrefl _)⟩, hB1.trans (hb3.mono hs1)⟩

set_option maxRecDepth 20000 in
set_option maxHeartbeats 2000000 in
theorem data_dn_ok (k n s e : Int) (bq : Option Addr) (bl bc : Nat) (by_ off : Int) (b : List Int) (ep : Int) (_hep : 0 ≤ ep ∧ ep ≤ 1099511627776) (w : World) (h1 : ¬ -4 < off) (hc : cmdOk k n s e = true) :
    Calls Try.prog 9 #[.agg #[.int .i64 k, .int .i64 n, .int .i64 s, .int .i64 e, .slice bq bl bc, .bool false, .int .i64 by_, .int .i64 off], .int .i64 ep] w fun o w' => ∃ v, o = .returned v ∧ Dat w w' ⟨k, n, s, e, bq, bl, bc, false, by_, off, b⟩ ep v ∧ Below w.heap.size w w' := by
  have hba := below_alloc w (.cells #[.int .i64 k, .int .i64 n, .int .i64 s, .int .i64 e, .slice bq bl bc, .bool false, .int .i64 by_, .int .i64 off] 26)
  have hbb := below_alloc (w.alloc (.cells #[.int .i64 k, .int .i64 n, .int .i64 s, .int .i64 e, .slice bq bl bc, .bool false, .int .i64 by_, .int .i64 off] 26)) (.cells #[.int .i64 k, .int .i64 n, .int .i64 s, .int .i64 e] 23)
  have hB0 := hba.trans (hbb.mono hba.size)
  have hE : epR ⟨k, n, s, e, bq, bl, bc, false, by_, off, b⟩ ep = e := if_neg (fun h => h1 h.1)
  have hDR : dataR ⟨k, n, s, e, bq, bl, bc, false, by_, off, b⟩ ep = putAll [k, n, s, e] := by
    unfold dataR
    rw [if_neg (show ¬ false = true by decide), hE]
    exact if_pos hc
  have HD : Hid (dataR ⟨k, n, s, e, bq, bl, bc, false, by_, off, b⟩ ep = putAll [k, n, s, e]) := hDR
  have hsz : ((w.alloc (.cells #[.int .i64 k, .int .i64 n, .int .i64 s, .int .i64 e, .slice bq bl bc, .bool false, .int .i64 by_, .int .i64 off] 26)).alloc (.cells #[.int .i64 k, .int .i64 n, .int .i64 s, .int .i64 e] 23)).heap.size = w.heap.size + 2 := by simp
  have hB1 : Below w.heap.size w ((w.alloc (.cells #[.int .i64 k, .int .i64 n, .int .i64 s, .int .i64 e, .slice bq bl bc, .bool false, .int .i64 by_, .int .i64 off] 26)).alloc (.cells #[.int .i64 k, .int .i64 n, .int .i64 s, .int .i64 e] 23)) := hB0
  have g1 := fun W => rPut_ok k n s e W hc
  have hlen : (putAll [k, n, s, e]).length ≤ 40 := by have hl := cmd_lim hc; exact putAll_len (l := [k, n, s, e]) (by intro x hx; simp only [List.mem_cons, List.not_mem_nil, or_false] at hx; rcases hx with rfl | rfl | rfl | rfl <;> omega)
  have d1 : decide (-4 < off) = false := decide_eq_false h1
  clear hDR hE hc hba hbb
  go_enter Try.func9, Try.ntmps9
  go_wp2_with fail
  refine (g1 _).mono ?_
  rintro o w3 ⟨v, rfl, p3, c3, rfl, ho, hb3⟩
  have hfar := ho.far
  have hrd := ho.rd
  obtain ⟨L, HL⟩ : ∃ L, Hid (putAll [k, n, s, e] = L) := ⟨_, rfl⟩
  rw [HL.out] at hrd hfar hlen HD ⊢
  have hBy : By L := by rw [← HL.out]; exact putAll_by _
  have hs1 := hB1.size
  clear ho g1 HL
  go_wp2_with fail
  go_ret
  exact ⟨_, rfl, ⟨_, _, _, rfl, by rw [HD.out]; exact hrd, by rw [HD.out]; exact hBy, Or.inr hlen, fun a ha h0 => Or.inr (Nat.le_trans hs1 (hfar a ha h0))⟩, hB1.trans (hb3.mono hs1)⟩

set_option maxRecDepth 20000 in
set_option maxHeartbeats 2000000 in
theorem data_dn_no (k n s e : Int) (bq : Option Addr) (bl bc : Nat) (by_ off : Int) (b : List Int) (ep : Int) (_hep : 0 ≤ ep ∧ ep ≤ 1099511627776) (w : World) (h1 : ¬ -4 < off) (hc : cmdOk k n s e = false) :
    Calls Try.prog 9 #[.agg #[.int .i64 k, .int .i64 n, .int .i64 s, .int .i64 e, .slice bq bl bc, .bool false, .int .i64 by_, .int .i64 off], .int .i64 ep] w fun o w' => ∃ v, o = .returned v ∧ Dat w w' ⟨k, n, s, e, bq, bl, bc, false, by_, off, b⟩ ep v ∧ Below w.heap.size w w' := by
  have hba := below_alloc w (.cells #[.int .i64 k, .int .i64 n, .int .i64 s, .int .i64 e, .slice bq bl bc, .bool false, .int .i64 by_, .int .i64 off] 26)
  have hbb := below_alloc (w.alloc (.cells #[.int .i64 k, .int .i64 n, .int .i64 s, .int .i64 e, .slice bq bl bc, .bool false, .int .i64 by_, .int .i64 off] 26)) (.cells #[.int .i64 k, .int .i64 n, .int .i64 s, .int .i64 e] 23)
  have hB0 := hba.trans (hbb.mono hba.size)
  have hE : epR ⟨k, n, s, e, bq, bl, bc, false, by_, off, b⟩ ep = e := if_neg (fun h => h1 h.1)
  have hDR : dataR ⟨k, n, s, e, bq, bl, bc, false, by_, off, b⟩ ep = [] := by
    unfold dataR
    rw [if_neg (show ¬ false = true by decide), hE]
    exact if_neg (fun h => by rw [hc] at h; cases h)
  have HD : Hid (dataR ⟨k, n, s, e, bq, bl, bc, false, by_, off, b⟩ ep = []) := hDR
  have hsz : ((w.alloc (.cells #[.int .i64 k, .int .i64 n, .int .i64 s, .int .i64 e, .slice bq bl bc, .bool false, .int .i64 by_, .int .i64 off] 26)).alloc (.cells #[.int .i64 k, .int .i64 n, .int .i64 s, .int .i64 e] 23)).heap.size = w.heap.size + 2 := by simp
  have hB1 : Below w.heap.size w ((w.alloc (.cells #[.int .i64 k, .int .i64 n, .int .i64 s, .int .i64 e, .slice bq bl bc, .bool false, .int .i64 by_, .int .i64 off] 26)).alloc (.cells #[.int .i64 k, .int .i64 n, .int .i64 s, .int .i64 e] 23)) := hB0
  have g1 := fun W => rPut_no k n s e W hc
  have d1 : decide (-4 < off) = false := decide_eq_false h1
  clear hDR hE hc hba hbb
  go_enter Try.func9, Try.ntmps9
  go_wp2_with fail
  refine (g1 _).mono ?_
  rintro o w3 ⟨rfl, hb3⟩
  have hs1 := hB1.size
  clear g1
  go_wp2_with fail
  go_ret
  exact ⟨_, rfl, ⟨_, _, _, rfl, by rw [HD.out]; exact Rd.empty _ _ _ _ (fun _ => rfl), by rw [HD.out]; exact By.nil, Or.inr (Nat.zero_le _), fun a ha h0 => absurd h0 (Nat.lt_irrefl _)⟩, hB1.trans (hb3.mono hs1)⟩

theorem data_any (x : Dj) (ep : Int) (hep : 0 ≤ ep ∧ ep ≤ 1099511627776) (w : World) (hr : x.rd w) :
    Calls Try.prog 9 #[.agg #[.int .i64 x.k, .int .i64 x.n, .int .i64 x.s, .int .i64 x.e, .slice x.bq x.bl x.bc, .bool x.raw, .int .i64 x.by_, .int .i64 x.off], .int .i64 ep] w fun o w' => ∃ v, o = .returned v ∧ Dat w w' x ep v ∧ Below w.heap.size w w' := by
  obtain ⟨k, n, s, e, bq, bl, bc, raw, by_, off, b⟩ := x
  cases raw with
  | true => exact data_raw k n s e bq bl bc by_ off b ep w hr
  | false =>
    dsimp only
    by_cases h1 : -4 < off
    · by_cases h2 : off < 4
      · cases hc : cmdOk k n s (ep + off) with
        | true => exact data_in_ok k n s e bq bl bc by_ off b ep hep w h1 h2 hc
        | false => exact data_in_no k n s e bq bl bc by_ off b ep hep w h1 h2 hc
      · cases hc : cmdOk k n s e with
        | true => exact data_up_ok k n s e bq bl bc by_ off b ep hep w h1 h2 hc
        | false => exact data_up_no k n s e bq bl bc by_ off b ep hep w h1 h2 hc
    · cases hc : cmdOk k n s e with
      | true => exact data_dn_ok k n s e bq bl bc by_ off b ep hep w h1 hc
      | false => exact data_dn_no k n s e bq bl bc by_ off b ep hep w h1 hc

end Go.Proofs.Ytjhcadckmklgnab.M
