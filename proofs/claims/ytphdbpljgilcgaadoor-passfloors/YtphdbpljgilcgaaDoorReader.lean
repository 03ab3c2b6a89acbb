/-
  Own text: a reader that Read made, and contracts of its calls.
-/
import Derived.Test.YtphdbpljgilcgaaDoorOpenC
namespace Go.Proofs.YtphdbpljgilcgaaDoor.M
open Go.ChangeShapes Go.WideShapes Go.ChangeAt Go.RowKit

/-- A reader in block g: the bytes that are not read, the first error. -/
structure Rdr (w : World) (g : Nat) (p : Option Addr) (n c : Nat) (xs : List Int) (err : Nat) : Prop where
  made : w.cell? ⟨g, 0, none⟩ = some (.bool true)
  rest : w.cell? ⟨g, 1, none⟩ = some (.slice p n c)
  err : w.cell? ⟨g, 2, none⟩ = some (.int .i64 err)
  free : ∀ j, w.frozen? ⟨g, j, none⟩ = false
  rd : Rd .u8 w p n c xs
  far : ∀ b o, 0 < n → p = some ⟨b, o, none⟩ → b < g
  byt : By xs
  room : n ≤ 1099511627776

theorem Rdr.lt {w g p n c xs err} (h : Rdr w g p n c xs err) : g < w.heap.size := World.block_lt_of_cell? _ _ h.made

theorem grown_setCell (w : World) (g j : Nat) (v : Value) : w.grownBy (w.setCell ⟨g, j, none⟩ v) (some g) :=
  ⟨rfl, rfl, rfl, by simp [World.setCell], fun k _ hne => Below.heap_setCell _ _ _ _ (fun e => hne (by rw [e]))⟩

theorem Rd.kept {k : IntKind} {w w' : World} {p : Option Addr} {n c g : Nat} {xs : List Int} (h : Rd k w p n c xs) (hg : w.grownBy w' (some g)) (hf : ∀ b o, 0 < n → p = some ⟨b, o, none⟩ → b < g) : Rd k w' p n c xs := by
  refine ⟨h.len, h.cap, h.nil, fun hn => ?_⟩
  obtain ⟨b, o, hp, hc⟩ := h.cells hn
  have hbg := hf b o hn hp
  exact ⟨b, o, hp, fun i hi => hg.cell (hc i hi) (by simp; omega)⟩

theorem Ow.kept {k : IntKind} {e : TypeId} {w w' : World} {B : Nat} {p : Option Addr} {n c g : Nat} {xs : List Int} (h : Ow k e w B p n c xs) (hg : w.grownBy w' (some g)) (hB : g < B) : Ow k e w' B p n c xs := by
  refine ⟨h.len, ?_⟩
  rcases h.own with ho | ho
  · exact Or.inl ho
  · refine Or.inr (ho.kept hg ?_)
    rcases ho.2 with ⟨hv, _⟩ | ⟨g', cap, cur, hv, hg', _⟩
    · rw [hv]; exact Or.inl rfl
    · rw [hv]; exact Or.inr (by simp [Value.ownBlock]; omega)

theorem Rdr.below {w w' : World} {g : Nat} {p : Option Addr} {n c : Nat} {xs : List Int} {err B : Nat} (h : Rdr w g p n c xs err) (hb : Below B w w') (hg : g < B) : Rdr w' g p n c xs err := by
  refine ⟨?_, ?_, ?_, fun j => ?_, ?_, h.far, h.byt, h.room⟩
  · rw [hb.cell (p := ⟨g, 0, none⟩) hg]; exact h.made
  · rw [hb.cell (p := ⟨g, 1, none⟩) hg]; exact h.rest
  · rw [hb.cell (p := ⟨g, 2, none⟩) hg]; exact h.err
  · rw [hb.frozen (p := ⟨g, j, none⟩) hg]; exact h.free j
  · refine ⟨h.rd.len, h.rd.cap, h.rd.nil, fun hn => ?_⟩
    obtain ⟨b, o, hp, hc⟩ := h.rd.cells hn
    refine ⟨b, o, hp, fun i hi => ?_⟩
    rw [hb.cell (p := ⟨b, o + i, none⟩) (Nat.lt_trans (h.far b o hn hp) hg)]
    exact hc i hi

theorem addr_ne {g i j : Nat} (h : i ≠ j) : (⟨g, i, none⟩ : Addr) ≠ ⟨g, j, none⟩ := fun e => h (by injection e)

/-- Behind a store of the first error. -/
theorem Rdr.fail {w : World} {g : Nat} {p : Option Addr} {n c : Nat} {xs : List Int} {err : Nat} (h : Rdr w g p n c xs err) (e : Nat) : Rdr (w.setCell ⟨g, 2, none⟩ (.int .i64 e)) g p n c xs e := by
  refine ⟨?_, ?_, ?_, fun j => ?_, h.rd.kept (grown_setCell _ _ _ _) h.far, h.far, h.byt, h.room⟩
  · rw [World.cell?_setCell_other (h := addr_ne (by decide))]; exact h.made
  · rw [World.cell?_setCell_other (h := addr_ne (by decide))]; exact h.rest
  · exact World.cell?_setCell_same _ _ _ h.err
  · rw [World.frozen?_setCell]; exact h.free j

/-- Behind a store of what is left. -/
theorem Rdr.step {w : World} {g : Nat} {p : Option Addr} {n c : Nat} {xs : List Int} {err : Nat} (h : Rdr w g p n c xs err) {p' : Option Addr} {n' c' : Nat} {ys : List Int} (hr : Rd .u8 w p' n' c' ys) (hf : ∀ b o, 0 < n' → p' = some ⟨b, o, none⟩ → b < g) (hy : By ys) (hn : n' ≤ n) :
    Rdr (w.setCell ⟨g, 1, none⟩ (.slice p' n' c')) g p' n' c' ys err := by
  refine ⟨?_, ?_, ?_, fun j => ?_, hr.kept (grown_setCell _ _ _ _) hf, hf, hy, Nat.le_trans hn h.room⟩
  · rw [World.cell?_setCell_other (h := addr_ne (by decide))]; exact h.made
  · exact World.cell?_setCell_same _ _ _ h.rest
  · rw [World.cell?_setCell_other (h := addr_ne (by decide))]; exact h.err
  · rw [World.frozen?_setCell]; exact h.free j

set_option maxRecDepth 20000 in
theorem err_any (g : Nat) (p : Option Addr) (n c : Nat) (xs : List Int) (err : Nat) (w : World) (h : Rdr w g p n c xs err) :
    Calls Tryd.prog 43 #[.pointer (some ⟨g, 0, none⟩)] w fun e w' => e = .returned (.int .i64 err) ∧ w' = w := by
  have h1 := h.made
  have h2 := h.err
  clear h
  go_enter Tryd.func43, Tryd.ntmps43
  go_wp2
  go_ret
  exact ⟨rfl, rfl⟩

set_option maxRecDepth 20000 in
theorem read_any (p : Option Addr) (n c : Nat) (xs : List Int) (w : World) (hr : Rd .u8 w p n c xs) (hx : By xs) (hn : n ≤ 1099511627776) :
    Calls Tryd.prog 30 #[.slice p n c] w fun e w' => ∃ g p' c', e = .returned (.pointer (some ⟨g, 0, none⟩)) ∧ Rdr w' g p' n c' xs 0 ∧ w.heap.size ≤ g ∧ w'.heap.size = g + 1 ∧ Below w.heap.size w w' := by
  have ho := own_any p n c xs w hr (by omega)
  clear hr
  go_enter Tryd.func30, Tryd.ntmps30
  go_wp2_with (go_at_call 27; refine ho.mono ?_; rintro e w1 ⟨p1, c1, rfl, ho1, hb1⟩)
  go_ret
  have hlt : ∀ b o, 0 < n → p1 = some ⟨b, o, none⟩ → b < w1.heap.size := by
    intro b o h0 hp
    obtain ⟨b', o', hp', hc⟩ := ho1.rd.cells h0
    rw [hp] at hp'
    cases hp'
    exact World.block_lt_of_cell? _ _ (hc 0 h0)
  refine ⟨w1.heap.size, p1, c1, rfl, ⟨by simp, by simp, by simp, fun j => by simp, ho1.rd.below (below_alloc _ _), hlt, hx, hn⟩, hb1.size, by simp, hb1.trans ((below_alloc _ _).mono hb1.size)⟩

set_option maxRecDepth 20000 in
theorem step_err (g : Nat) (p : Option Addr) (n c : Nat) (xs : List Int) (err size e : Nat) (w : World) (h : Rdr w g p n c xs err) (he : 0 < e) :
    Calls Tryd.prog 45 #[.pointer (some ⟨g, 0, none⟩), .int .i64 size, .int .i64 e] w fun r w' => r = .returned (.tuple #[]) ∧ Rdr w' g p n c xs e ∧ w.grownBy w' (some g) := by
  have h2 := h.err
  have h3 := h.free 2
  have R := h.fail e
  have he' : ((e : Int) != 0) = true := by simp; omega
  clear h
  go_enter Tryd.func45, Tryd.ntmps45
  go_wp2
  exact bodyPost_ret (results_none (by kernel_rfl) _ _ _) rfl ⟨rfl, R, grown_setCell _ _ _ _⟩

set_option maxRecDepth 20000 in
theorem step_ok (g b o n c : Nat) (xs : List Int) (err size : Nat) (w : World) (h : Rdr w g (some ⟨b, o, none⟩) n c xs err) (h0 : 0 < size) (hs : size ≤ n) :
    Calls Tryd.prog 45 #[.pointer (some ⟨g, 0, none⟩), .int .i64 size, .int .i64 0] w fun r w' => r = .returned (.tuple #[]) ∧ (∃ p' c', Rdr w' g p' (n - size) c' (xs.drop size) err) ∧ w.grownBy w' (some g) := by
  have h1 := h.rest
  have h3 := h.free 1
  have hcap := h.rd.cap
  have hlen := h.rd.len
  by_cases hc : size = c
  · have hx0 : xs.drop size = [] := List.drop_of_length_le (by omega)
    have R := h.step (p' := some ⟨b, o, none⟩) (n' := 0) (c' := 0) (ys := []) (Rd.empty _ _ _ _ (fun _ => rfl)) (fun b o h0 => absurd h0 (Nat.lt_irrefl _)) By.nil (Nat.zero_le _)
    have hz : n - size = 0 := by omega
    have HZ : Hid (n - size = 0) := hz
    have HX : Hid (xs.drop size = []) := hx0
    obtain rfl : n = c := by omega
    subst hc
    clear h hx0 hz
    go_enter Tryd.func45, Tryd.ntmps45
    go_wp2
    go_end0
    exact ⟨rfl, ⟨_, _, by rw [HZ.out, HX.out]; exact R⟩, grown_setCell _ _ _ _⟩
  · have hsub : Rd .u8 w (some ⟨b, o + size, none⟩) (n - size) (c - size) (xs.drop size) := by
      have h := h.rd.sub size (n - size) (c - size) (by omega) (by omega)
      rw [List.take_of_length_le (by rw [List.length_drop, hlen]; exact Nat.le_refl _)] at h
      exact h
    have R := h.step hsub (fun b' o' h0 hp => by cases hp; exact h.far b o (by omega) rfl) (h.byt.drop _) (by omega)
    have hlt : size < c := by omega
    clear h hc hsub hlen
    go_enter Tryd.func45, Tryd.ntmps45
    go_wp2
    go_end0
    exact ⟨rfl, ⟨_, _, R⟩, grown_setCell _ _ _ _⟩

set_option maxRecDepth 20000 in
theorem number_good (g : Nat) (p : Option Addr) (n c : Nat) (xs : List Int) (w : World) (h : Rdr w g p n c xs 0) (he : (numR xs).2.2 = 0) :
    Calls Tryd.prog 32 #[.pointer (some ⟨g, 0, none⟩)] w fun e w' => e = .returned (.int .u64 (numR xs).1) ∧ (∃ p' c', Rdr w' g p' (n - (numR xs).2.1) c' (xs.drop (numR xs).2.1) 0) ∧ w.grownBy w' (some g) := by
  have hE := err_any g p n c xs 0 w h
  have hN := number_any p n c xs w h.rd h.byt h.room
  have hroom := num_room h.byt he
  have hl := h.rd.len
  obtain ⟨b, o, rfl, _⟩ := h.rd.cells (by omega)
  have hS := step_ok g b o n c xs 0 (numR xs).2.1 w h (by omega) (by omega)
  have h1 := h.rest
  rw [he] at hN
  generalize (numR xs).1 = v at hN ⊢
  generalize (numR xs).2.1 = a at hN hS ⊢
  clear h he hroom hl
  go_enter Tryd.func32, Tryd.ntmps32
  go_wp2_with fail
  refine hE.mono ?_
  rintro e w1 ⟨rfl, hw⟩
  subst hw
  go_wp2_with fail
  refine hN.mono ?_
  rintro e w1 ⟨rfl, hw⟩
  subst hw
  go_wp2_with fail
  refine hS.mono ?_
  rintro e w2 ⟨rfl, hR, hg⟩
  go_wp2_with fail
  go_ret
  exact ⟨rfl, hR, hg⟩

set_option maxRecDepth 20000 in
theorem number_bad (g : Nat) (p : Option Addr) (n c : Nat) (xs : List Int) (w : World) (h : Rdr w g p n c xs 0) (he : (numR xs).2.2 ≠ 0) :
    Calls Tryd.prog 32 #[.pointer (some ⟨g, 0, none⟩)] w fun e w' => e = .returned (.int .u64 (numR xs).1) ∧ Rdr w' g p n c xs (numR xs).2.2 ∧ w.grownBy w' (some g) := by
  have hE := err_any g p n c xs 0 w h
  have hN := number_any p n c xs w h.rd h.byt h.room
  have hS := step_err g p n c xs 0 (numR xs).2.1 (numR xs).2.2 w h (by omega)
  have h1 := h.rest
  generalize (numR xs).1 = v at hN ⊢
  generalize (numR xs).2.1 = a at hN hS
  generalize (numR xs).2.2 = d at hN hS he ⊢
  clear h he
  go_enter Tryd.func32, Tryd.ntmps32
  go_wp2_with fail
  refine hE.mono ?_
  rintro e w1 ⟨rfl, hw⟩
  subst hw
  go_wp2_with fail
  refine hN.mono ?_
  rintro e w1 ⟨rfl, hw⟩
  subst hw
  go_wp2_with fail
  refine hS.mono ?_
  rintro e w2 ⟨rfl, hR, hg⟩
  go_wp2_with fail
  go_ret
  exact ⟨rfl, hR, hg⟩

end Go.Proofs.YtphdbpljgilcgaaDoor.M
