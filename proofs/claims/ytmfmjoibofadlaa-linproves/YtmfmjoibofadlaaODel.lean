/-
  Own text: a clone of numbers, and at most one number without those of which something is so.
-/
import Derived.Test.YtmfmjoibofadlaaOClo
namespace Go.Proofs.Ytmfmjoibofadlaa.M
open Go.ChangeShapes Go.WideShapes Go.ChangeAt Go.RowKit
set_option linter.unusedSimpArgs false

theorem infoI : (Try.prog.info? 3).map (fun i => (i.zero, i.size, i.bytes)) = some (some (.int .i64 0), 1, 8) := by kernel_rfl

set_option maxRecDepth 20000 in
theorem iclone_any (p : Option Addr) (n c : Nat) (xs : List Int) (w : World) (hr : Rd .i64 w p n c xs) (hn : n ≤ 1099511627776) :
    Calls Try.prog 75 #[.slice p n c] w fun e w' => ∃ p' c', e = .returned (.slice p' n c') ∧ Ow .i64 3 w' w.heap.size p' n c' xs ∧ Below w.heap.size w w' := by
  have q22 : ∀ (w : World) (a : Option Addr) (n c n' c' : Nat), (binOp .eql 30 (.slice a n c) (.slice none n' c')).run Try.prog w = .ok (.bool a.isNone) w := fun w a n c n' c' => Lib.run_eql_slice_nil w _ _ a n c n' c' Try.underlying30
  obtain ⟨i0, hi0, hz0, hz1, hz2⟩ := info_parts infoI
  cases p with
  | none =>
    have hn0 : n = 0 := by have := hr.cap; have := hr.nil rfl; omega
    subst hn0
    have hc0 := hr.nil rfl
    subst hc0
    have hx : xs = [] := List.length_eq_zero_iff.1 hr.len
    subst hx
    go_enter Try.func75, Try.ntmps75
    go_wp2_with fail
    go_ret
    exact ⟨none, 0, rfl, Ow.empty _ _ _ _ _, Below.refl _ _⟩
  | some ad =>
    have hba := below_alloc w (.cells #[] 3)
    have hra := hr.below hba
    clear hr
    go_enter Try.func75, Try.ntmps75
    go_wp2_with (refine wpList_app _ rfl (.tmp 5) (.tmp 6) 30 rfl .i64 3 i0 (.int .i64 0) 8 Try.underlying30 hi0 hz0 hz1 hz2 rfl w.heap.size _ 0 0 [] rfl (Ow.empty _ _ _ _ _) (some ad) n c xs rfl hra ?c1 ?c2 ?c3 ?_)
    case c1 => omega
    case c2 => unfold maxLen; omega
    case c3 => simp
    intro p' c' w' h1 hg
    have hb := hba.trans hg
    go_wp2_with fail
    go_ret
    exact ⟨p', c', by first | rfl | simp, by simpa using h1, hb⟩

theorem wpList_clear_run {P : Program} (w : World) {ops : Array Oper} {rest : List Oper} {o : Oper} {a : Act} {Q : Exit → Act → World → Prop} (hgd : o.guard = none) (s : Operand) (t : TypeId)
    (ho : o.op = .call { callee := .builtin .clear, args := #[s], argTypes := #[t] }) (v : Value) (hs : a.eval s = v) {v' : Value} {w' : World}
    (hr : (Builtin.clear_ #[t] o.type #[v]).run P w = .ok v' w') (h : wpList P ops Q rest (a.put o.dst v') w') : wpList P ops Q (o :: rest) a w := by
  refine wpList_plain hgd fun K hK => ?_
  unfold Oper.wp execOp
  simp only [ho, resolve, invoke, builtin, Sem.run_bind, Sem.run_pure, Result.andThen_ok, List.map_toArray, List.map_cons, List.map_nil, hs, hr]
  exact hK _ _ h

theorem run_clear1 (w : World) (ty : TypeId) (b c : Nat) (u : Value) (hc : w.cell? ⟨b, 0, none⟩ = some u) (hf : w.frozen? ⟨b, 0, none⟩ = false) :
    (Builtin.clear_ #[30] ty #[.slice (some ⟨b, 0, none⟩) 1 c]).run Try.prog w = .ok (.tuple #[]) (w.setCell ⟨b, 0, none⟩ (.int .i64 0)) := by
  have hst := run_storeCells_cells (P := Try.prog) b 0 [.int .i64 0] 0 w (fun j hj => by
    match j, hj with
    | 0, _ => rw [Nat.add_zero, hc]; rfl) (fun j hj => by
    match j, hj with
    | 0, _ => exact hf) (fun u hu => by rw [List.mem_singleton.1 hu]; rfl)
  have hz := fun w => Try.zeroValue3 w
  have e1 : (Builtin.zeroCells (Value.int .i64 0).cells 1) = #[.int .i64 0] := by kernel_rfl
  simp only [Nat.add_zero] at hst
  simp [Builtin.clear_, run_underlying Try.underlying30, hz, e1, hst, World.setCells]

set_option maxRecDepth 20000 in
theorem del_keep (F : FuncId) (hcf : Cf F) (caps : Array Value) (pr : Int → Bool) (p : Option Addr) (n c : Nat) (xs : List Int) (w : World) (hr : Rd .i64 w p n c xs) (hn : n ≤ 1099511627776) (hA : AsksI F caps w xs pr) (h : ixI pr 0 xs = -1) :
    Calls Try.prog 74 #[.slice p n c, .func (.func F) #[] caps] w fun e w' => e = .returned (.slice p n c) ∧ Below w.heap.size w w' := by
  have hI := indexI_any F hcf caps pr p n c xs w hr hn hA
  rw [h] at hI
  clear hr hA hcf h
  go_enter Try.func74, Try.ntmps74
  go_wp2_with fail
  refine hI.mono ?_
  rintro e w1 ⟨rfl, hb⟩
  clear hI
  go_wp2_with fail
  go_ret
  exact ⟨rfl, hb⟩

theorem ow_one {w : World} {B : Nat} {p : Option Addr} {c : Nat} {x : Int} (h : Ow .i64 3 w B p 1 c [x]) : ∃ g, p = some ⟨g, 0, none⟩ ∧ B ≤ g ∧ g < w.heap.size ∧ w.cell? ⟨g, 0, none⟩ = some (.int .i64 x) ∧ w.frozen? ⟨g, 0, none⟩ = false ∧ 1 ≤ c := by
  have hc := h.cap
  obtain ⟨b, o, hp, hcell⟩ := h.rd.cells (by decide)
  rcases h.own with ⟨h1, _⟩ | ho
  · cases h1
  · rcases ho.2 with ⟨hv, _⟩ | ⟨g, cap, cur, hv, hg, hh, hc2, hm, hs, ht⟩
    · simp at hv
    · simp at hv
      obtain ⟨rfl, rfl⟩ := hv
      injection hp with e1
      injection e1 with e2 e3
      subst e2
      subst e3
      have h0 := hcell 0 (by decide)
      exact ⟨g, rfl, hg, (Array.getElem?_eq_some_iff.1 hh).1, h0, frozen_of_row _ _ _ _ _ hh, hc⟩

set_option maxRecDepth 20000 in
set_option maxHeartbeats 1000000 in
theorem del_one (F : FuncId) (hcf : Cf F) (caps : Array Value) (pr : Int → Bool) (p : Option Addr) (c : Nat) (x : Int) (w : World) (B : Nat) (ho : Ow .i64 3 w B p 1 c [x]) (hB : B ≤ w.heap.size) (hA : AsksI F caps w [x] pr) (h : pr x = true) :
    Calls Try.prog 74 #[.slice p 1 c, .func (.func F) #[] caps] w fun e w' => e = .returned (.slice p 0 c) ∧ Below B w w' := by
  have hI := indexI_any F hcf caps pr p 1 c [x] w ho.rd (by decide) hA
  have h0 : ixI pr 0 [x] = 0 := by unfold ixI; rw [if_pos h]; rfl
  rw [h0] at hI
  obtain ⟨g, rfl, hg, hgl, hcell, hfz, hc1⟩ := ow_one ho
  clear ho hA hcf h h0
  go_enter Try.func74, Try.ntmps74
  go_wp2_with fail
  refine hI.mono ?_
  rintro e w1 ⟨rfl, hb⟩
  have k1 : w1.cell? ⟨g, 0, none⟩ = some (.int .i64 x) := by rw [hb.cell (p := ⟨g, 0, none⟩) hgl]; exact hcell
  have k2 : w1.frozen? ⟨g, 0, none⟩ = false := by rw [hb.frozen (p := ⟨g, 0, none⟩) hgl]; exact hfz
  have hcl := fun ty => run_clear1 w1 ty g c _ k1 k2
  have hbb := (hb.mono hB).setCell (p := ⟨g, 0, none⟩) hg (.int .i64 0)
  clear hI
  go_wp2_with fail
  go_loopw [5, 6] (fun vi vj wr => vi = .int .i64 0 ∧ vj = .int .i64 1 ∧ wr = w1) (fun _ _ _ => 0)
  case atStart => exact ⟨rfl, by first | rfl | go_num, rfl⟩
  case round =>
    obtain ⟨rfl, rfl, rfl⟩ := hrel
    go_wp2_with (refine wpList_clear_run _ rfl (.tmp 38) 30 rfl _ rfl (hcl _) ?_)
    go_ret
    exact ⟨rfl, hbb⟩

end Go.Proofs.Ytmfmjoibofadlaa.M
