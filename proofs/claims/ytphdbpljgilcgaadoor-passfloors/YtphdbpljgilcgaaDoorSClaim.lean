/-
  Own text: what bytes say was seen: contracts of Within where the number is right, and of claimed over the bytes of what may be.
-/
import Derived.Test.YtphdbpljgilcgaaDoorSMake
namespace Go.Proofs.YtphdbpljgilcgaaDoor.M
open Go.ChangeShapes Go.WideShapes Go.ChangeAt Go.RowKit Go.Proofs
set_option linter.unusedSimpArgs false

theorem numR_put {m : Nat} (h : m < 18446744073709551616) (R : List Int) : (numR (putL m ++ R)).1 = m ∧ (numR (putL m ++ R)).2.1 = (putL m).length ∧ (numR (putL m ++ R)).2.2 = 0 := by
  rw [numR_putL h R]
  exact ⟨rfl, rfl, rfl⟩

set_option maxRecDepth 20000 in
set_option maxHeartbeats 1000000 in
theorem within_put (g : Nat) (p : Option Addr) (n c m hi : Nat) (R : List Int) (w : World) (h : Rdr w g p n c (putL m ++ R) 0) (hm : m ≤ hi) (hh : hi ≤ 1099511627776) :
    Calls Tryd.prog 31 #[.pointer (some ⟨g, 0, none⟩), .int .i64 0, .int .i64 hi] w fun e w' => e = .returned (.int .i64 m) ∧ (∃ p' n' c', Rdr w' g p' n' c' R 0) ∧ w.grownBy w' (some g) := by
  obtain ⟨e1, e2, e3⟩ := numR_put (m := m) (by omega) R
  have hE := err_any g p n c _ 0 w h
  have hN := number_any p n c _ w h.rd h.byt h.room
  have hroom := num_room h.byt e3
  have hl := h.rd.len
  obtain ⟨b, o, rfl, _⟩ := h.rd.cells (by omega)
  have hS := step_ok g b o n c _ 0 (putL m).length w h (putL_pos m) (by rw [← hl, List.length_append]; omega)
  rw [List.drop_left] at hS
  have h1 := h.rest
  rw [e1, e2, e3] at hN
  have hc1 : IntKind.i64.wrap (m : Int) = (m : Int) := by rw [IntKind.wrap_i64]; omega
  have d1 : decide ((4611686018427387904 : Int) < (m : Int)) = false := decide_eq_false (by omega)
  have d2 : decide ((m : Int) < 0) = false := decide_eq_false (by omega)
  have d3 : decide ((hi : Int) < (m : Int)) = false := decide_eq_false (by omega)
  generalize (putL m).length = a at *
  have d4 : decide (hi < m) = false := decide_eq_false (by omega)
  clear h hroom hl e1 e2 e3
  go_enter Tryd.func31, Tryd.ntmps31
  go_wp2_with fail
  refine hE.mono ?_
  rintro e w1 ⟨rfl, hw⟩
  subst hw
  go_wp2_with fail
  refine hN.mono ?_
  rintro e w1 ⟨rfl, hw⟩
  subst hw
  go_wp2_with fail
  refine hS.mono ?_
  rintro e w2 ⟨rfl, ⟨p', c', hR⟩, hg⟩
  go_wp2_with fail
  go_ret
  exact ⟨rfl, ⟨p', _, c', hR⟩, hg⟩

theorem number_put (g : Nat) (p : Option Addr) (n c m : Nat) (R : List Int) (w : World) (h : Rdr w g p n c (putL m ++ R) 0) (hm : m < 18446744073709551616) :
    Calls Tryd.prog 32 #[.pointer (some ⟨g, 0, none⟩)] w fun e w' => e = .returned (.int .u64 m) ∧ (∃ p' n' c', Rdr w' g p' n' c' R 0) ∧ w.grownBy w' (some g) := by
  obtain ⟨e1, e2, e3⟩ := numR_put hm R
  have hN := number_good g p n c _ w h e3
  rw [e1, e2, List.drop_left] at hN
  exact hN.mono fun e w' ⟨h1, ⟨p', c', hR⟩, h3⟩ => ⟨h1, ⟨p', _, c', hR⟩, h3⟩

theorem cellsM_snoc (L : List Sn) (k : Nat) : cellsM L (k + 1) = cellsM L k ++ (L.getD k .z0).cs := by
  apply List.ext_getElem?
  intro j
  rcases Nat.lt_or_ge j (k * 9) with h1 | h1
  · rw [cellsM_get _ _ (by omega), List.getElem?_append_left (by rw [cellsM_len]; exact h1), cellsM_get _ _ h1]
  · rw [List.getElem?_append_right (by rw [cellsM_len]; exact h1), cellsM_len]
    rcases Nat.lt_or_ge j (k * 9 + 9) with h2 | h2
    · obtain ⟨r, rfl⟩ : ∃ r, j = k * 9 + r := ⟨j - k * 9, by omega⟩
      rw [cellsM_get _ _ (by omega), show k * 9 + r - k * 9 = r by omega, cs_get _ (by omega), cellAt_r L k (by omega)]
    · rw [List.getElem?_eq_none (by rw [cellsM_len]; omega), List.getElem?_eq_none (by rw [cs_len]; omega)]

/-- A list that a call owns as a list that can be read. -/
theorem owns_rd {w : World} {B n : Nat} {v : Value} {L : List Sn} (h : w.ownsRow B 36 9 v n (cellsM L n)) (hl : L.length = n) : ∃ q c, v = .slice q n c ∧ RdM w q n c L := by
  by_cases h0 : n = 0
  · subst h0
    obtain rfl : L = [] := List.length_eq_zero_iff.1 hl
    rcases h.2 with ⟨rfl, _⟩ | ⟨g, cap, cur, rfl, _⟩
    · exact ⟨none, 0, rfl, RdM.nilR _ _⟩
    · exact ⟨_, cap, rfl, rfl, Nat.zero_le _, (fun h => by cases h), fun h => absurd h (Nat.lt_irrefl _)⟩
  · obtain ⟨g, cap, rfl, _, hR⟩ := Row.of_owns h hl (by omega)
    exact ⟨_, cap, rfl, hl ▸ hR.rd⟩

theorem owns_below {w w' : World} {B n : Nat} {v : Value} {xs : List Value} (h : w.ownsRow B 36 9 v n xs) (hb : Below w.heap.size w w') : w'.ownsRow B 36 9 v n xs := by
  refine ⟨h.1, ?_⟩
  rcases h.2 with h2 | ⟨g, cap, cur, hv, hg, hh, r⟩
  · exact Or.inl h2
  · exact Or.inr ⟨g, cap, cur, hv, hg, by rw [hb.block g (Array.getElem?_eq_some_iff.1 hh).1]; exact hh, r⟩

theorem owns_kept {w w' : World} {g n : Nat} {v : Value} {xs : List Value} (h : w.ownsRow (g + 1) 36 9 v n xs) (hg : w.grownBy w' (some g)) : w'.ownsRow (g + 1) 36 9 v n xs := by
  refine h.kept hg ?_
  rcases h.2 with ⟨hv, _⟩ | ⟨g', cap, cur, hv, hg', _⟩
  · rw [hv]; exact Or.inl rfl
  · rw [hv]; exact Or.inr (by simp [Value.ownBlock]; omega)

/-- What is left of the bytes behind the first ones. -/
def restF (L : List Sn) (T : List Int) (k : Nat) : List Int := ((L.drop k).map snB).flatten ++ T

theorem drop_sn {fs : List Sn} {k : Nat} (h : k < fs.length) : fs.drop k = fs.getD k .z0 :: fs.drop (k + 1) := by
  rw [List.drop_eq_getElem_cons h, getD_eq h]

theorem restF_step {L : List Sn} {k : Nat} (h : k < L.length) (T : List Int) : restF L T k = putL (L.getD k .z0).n ++ (putL (L.getD k .z0).v.toNat ++ restF L T (k + 1)) := by
  unfold restF
  rw [drop_sn h, List.map_cons, List.flatten_cons]
  simp [snB]

theorem body_rest (L : List Sn) (T : List Int) : bodyL L ++ T = putL L.length ++ restF L T 0 := by
  unfold bodyL bodyF restF
  rw [List.take_length, List.drop_zero, List.append_assoc]

set_option maxRecDepth 20000 in
set_option maxHeartbeats 4000000 in
theorem claimed_any (p : Option Addr) (n c : Nat) (L : List Sn) (T : List Int) (w : World) (hr : Rd .u8 w p n c (bodyL L ++ T)) (hby : By (bodyL L ++ T)) (hn : n ≤ 1000000) (hf : Fit L) (h6 : L.length ≤ 6) (hvs : ∀ s ∈ L, 0 ≤ s.v ∧ s.v ≤ 1099511627776) :
    Calls Tryd.prog 20 #[.slice p n c] w fun e w' => ∃ q d, e = .returned (.slice q L.length d) ∧ RdM w' q L.length d L ∧ Below w.heap.size w w' := by
  have hMv : ∀ k, k < L.length → 0 ≤ (L.getD k .z0).v ∧ (L.getD k .z0).v ≤ 1099511627776 := fun k hk => by
    rw [getD_eq hk]
    exact hvs _ (List.getElem_mem hk)
  have cR := read_any p n c _ w hr hby (by omega)
  rw [body_rest] at cR
  obtain ⟨i0, hi0, hz0, hz1, hz2⟩ := info_parts infoM
  obtain ⟨m, hm⟩ : ∃ m, L.length = m := ⟨_, rfl⟩
  have HM : Hid (L.length = m) := hm
  rw [hm] at cR h6 hMv ⊢
  clear hr hby hm hvs
  go_enter Tryd.func20, Tryd.ntmps20
  go_wp2_with fail
  refine cR.mono ?_
  rintro e w1 ⟨g, p1, c1, rfl, hR1, hg1, hgs1, hb1⟩
  clear cR
  have cW := within_put g p1 n c1 m 6 _ w1 hR1 h6 (by decide)
  clear hR1
  go_wp2_with fail
  refine cW.mono ?_
  rintro e w2 ⟨rfl, ⟨p2, n2, c2, hR2⟩, hgr2⟩
  have hs2 : g + 1 ≤ w2.heap.size := by have := hgr2.size; omega
  have hbb2 : Below w.heap.size w w2 := hb1.grown hgr2 hb1.size (fun k hk => by cases hk; exact hg1)
  clear cW hgr2 hb1 hgs1
  go_wp2_with fail
  go_loopw [3, 9] (fun v i wr => ∃ (k : Nat) (p' : Option Addr) (c' n' : Nat), k ≤ m ∧ i = .int .i64 k ∧ wr.ownsRow (g + 1) 36 9 v k (cellsM L k) ∧ Rdr wr g p' n' c' (restF L T k) 0 ∧ g + 1 ≤ wr.heap.size ∧ Below w.heap.size w wr) (fun _ i _ => m - (intOf i).toNat)
  case atStart => exact ⟨0, p2, c2, n2, Nat.zero_le _, rfl, World.ownsRow_nil _ _ _ _, hR2, hs2, hbb2⟩
  case round =>
    clear hR2 hbb2
    obtain ⟨k, p', c', n', hk, rfl, ho, hR, hsz, hb⟩ := hrel
    by_cases h : k < m
    · have hlk : k < L.length := by rw [HM.out]; exact h
      have hfk := hf.get k
      have hvk := hMv k h
      have hk1 : (k : Int) < (m : Int) := by omega
      rw [restF_step hlk] at hR
      have HC : Hid (cellsM L (k + 1) = cellsM L k ++ (L.getD k .z0).cs) := cellsM_snoc L k
      obtain ⟨kv, hkv⟩ : ∃ kv : Nat, (L.getD k .z0).v = (kv : Int) := ⟨(L.getD k .z0).v.toNat, by omega⟩
      have HG : Hid ((L.getD k .z0) = ⟨(L.getD k .z0).n, (kv : Int)⟩) := by unfold Hid; rw [← hkv]
      rw [hkv, Int.toNat_natCast] at hR
      rw [hkv] at hvk
      rw [HG.out] at HC
      clear hkv HG hlk hMv
      generalize (L.getD k .z0).n = kn at *
      have cN := number_put g p' n' c' kn _ wr hR hfk
      clear hR
      go_wp2_with fail
      refine cN.mono ?_
      rintro e w3 ⟨rfl, ⟨p3, n3, c3, hR3⟩, hgr3⟩
      have ho3 := owns_kept ho hgr3
      have hs3 : g + 1 ≤ w3.heap.size := by have := hgr3.size; omega
      have hb3 : Below w.heap.size w w3 := hb.grown hgr3 hb.size (fun k hk => by cases hk; exact hg1)
      clear cN ho hgr3 hb hsz
      have c8 := eight8 kn w3
      go_wp2_with fail
      refine c8.mono ?_
      rintro e w4 ⟨rfl, hb4⟩
      have ho4 := owns_below ho3 hb4
      have hR4 := hR3.below hb4 hR3.lt
      have hs4 : g + 1 ≤ w4.heap.size := Nat.le_trans hs3 hb4.size
      have hbb4 := hb3.trans (hb4.mono hb3.size)
      clear c8 ho3 hR3 hs3 hb3 hb4
      have cW := within_put g p3 n3 c3 kv 1099511627776 _ w4 hR4 (by omega) (by decide)
      clear hR4
      go_wp2_with fail
      refine cW.mono ?_
      rintro e w5 ⟨rfl, ⟨p5, n5, c5, hR5⟩, hgr5⟩
      have ho5 := owns_kept ho4 hgr5
      have hs5 : g + 1 ≤ w5.heap.size := by have := hgr5.size; omega
      have hb5 : Below w.heap.size w w5 := hbb4.grown hgr5 hbb4.size (fun k hk => by cases hk; exact hg1)
      have hba := below_alloc w5 (.cells #[.int .u8 (bt (kn) 0), .int .u8 (bt (kn) 1), .int .u8 (bt (kn) 2), .int .u8 (bt (kn) 3), .int .u8 (bt (kn) 4), .int .u8 (bt (kn) 5), .int .u8 (bt (kn) 6), .int .u8 (bt (kn) 7), .int .i64 (kv : Int)] 36)
      have ho6 := owns_below ho5 hba
      have hR6 := hR5.below hba hR5.lt
      have hs6 : g + 1 ≤ (w5.alloc (.cells #[.int .u8 (bt (kn) 0), .int .u8 (bt (kn) 1), .int .u8 (bt (kn) 2), .int .u8 (bt (kn) 3), .int .u8 (bt (kn) 4), .int .u8 (bt (kn) 5), .int .u8 (bt (kn) 6), .int .u8 (bt (kn) 7), .int .i64 (kv : Int)] 36)).heap.size := Nat.le_trans hs5 hba.size
      have hb6 := hb5.trans (hba.mono hb5.size)
      have hnews : ∀ j u, (Sn.cs ⟨kn, (kv : Int)⟩)[j]? = some u → (w5.alloc (.cells #[.int .u8 (bt (kn) 0), .int .u8 (bt (kn) 1), .int .u8 (bt (kn) 2), .int .u8 (bt (kn) 3), .int .u8 (bt (kn) 4), .int .u8 (bt (kn) 5), .int .u8 (bt (kn) 6), .int .u8 (bt (kn) 7), .int .i64 (kv : Int)] 36)).cell? ((⟨w5.heap.size, 0, none⟩ : Addr).add j) = some u := fun j u hj => by
        rw [Addr.add_lit, Nat.zero_add, cell_of_row _ w5.heap.size j _ _ _ (heap_alloc_new w5 _)]
        unfold Sn.cs at hj
        simpa using hj
      clear cW ho4 hgr5 hbb4 hs4 ho5 hR5 hs5 hb5 hba
      go_wp2_with (refine wpList_append_own _ rfl (.tmp 11) (.tmp 18) 23 rfl (g + 1) 36 i0 _ 9 16 Tryd.underlying23 hi0 hz0 hz1 hz2 rfl (by decide) _ k (cellsM L k) rfl ho6 ⟨w5.heap.size, 0, none⟩ 1 1 (Sn.cs ⟨kn, (kv : Int)⟩) rfl rfl hnews (cs_one _) ?c1 ?c2 hs6 ?_)
      case c1 => unfold maxLen; omega
      case c2 => omega
      intro v7 w7 ho7 hgr7 _
      rw [← HC.out] at ho7
      have hb7 : Below (g + 1) (w5.alloc (.cells #[.int .u8 (bt (kn) 0), .int .u8 (bt (kn) 1), .int .u8 (bt (kn) 2), .int .u8 (bt (kn) 3), .int .u8 (bt (kn) 4), .int .u8 (bt (kn) 5), .int .u8 (bt (kn) 6), .int .u8 (bt (kn) 7), .int .i64 (kv : Int)] 36)) w7 := (Below.refl _ _).grown hgr7 hs6 (fun r hr => by
        rcases ho6.2 with ⟨hv, _⟩ | ⟨g', cap, cur, hv, hg', _⟩
        · rw [hv] at hr; cases hr
        · rw [hv] at hr; cases hr; exact hg')
      have hR7 := hR6.below hb7 (Nat.lt_succ_self g)
      have hs7 := Nat.le_trans hs6 hb7.size
      have hbb7 := hb6.trans (hb7.mono (by omega))
      clear ho6 hR6 hs6 hb6 hnews hgr7 hb7
      go_wp2_with fail
      go_roundw
      case rel => exact ⟨k + 1, p5, c5, n5, by omega, by go_num, ho7, hR7, hs7, hbb7⟩
      case measure => simp [intOf]; omega
    · obtain rfl : k = m := by omega
      obtain ⟨q, d, rfl, hq⟩ := owns_rd ho HM.out
      clear ho hR hMv
      go_wp2_with fail
      go_ret
      exact ⟨q, d, rfl, hq, hb⟩

end Go.Proofs.YtphdbpljgilcgaaDoor.M
