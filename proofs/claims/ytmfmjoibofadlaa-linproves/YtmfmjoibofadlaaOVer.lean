/-
  Own text: what Versions asks of a call.
-/
import Derived.Test.YtmfmjoibofadlaaOBy
namespace Go.Proofs.Ytmfmjoibofadlaa.M
open Go.ChangeShapes Go.WideShapes Go.ChangeAt Go.RowKit Go.ChangeMaps Go.MapKept Go.Maps Go.Shelf Go.Proofs
set_option linter.unusedSimpArgs false

theorem mapO : Try.prog.underlying 64 = some (.map 3 29) := Try.underlying64
theorem keyedO : Keyed Try.prog 3 := int_keyed Try.underlying3

/-- A version that can be a key. -/
def Vf (v : Int) : Prop := (Lit.int .i64 v).wf = true

def opV (o : Lo) : Value := .agg #[.bool o.w, .string o.s, .int .i64 o.v, .int .i64 o.b, .int .i64 o.e]

/-- What a read was told, held against the write of its version. -/
def hrdM (x : Option Lo) (o : Lo) : Bool := match x with
  | none => false
  | some u => (u.s.toList == o.s.toList) && decide (u.b < o.e)

def hrdB (x : Option Lo) (o : Lo) : Bool := if o.v = 0 then o.s.toList.isEmpty else hrdM x o

set_option maxRecDepth 20000 in
set_option maxHeartbeats 2000000 in
theorem heard_any {w : World} {g mb cnt : Nat} {f : Value → Option Value} (hg : w.cell? ⟨g, 0, none⟩ = some (.map (some mb))) (hm : MapIs Try.prog 3 w mb cnt f) (o : Lo) (hv : Vf o.v) (x : Option Lo) (hx : f (.int .i64 o.v) = x.map opV) :
    Calls Try.prog 32 #[.agg #[.bool o.w, .string o.s, .int .i64 o.v, .int .i64 o.b, .int .i64 o.e], .pointer (some ⟨g, 0, none⟩)] w fun e w' => e = .returned (.bool (hrdB x o)) ∧ Below w.heap.size w w' := by
  have hb0 := below_alloc w (.cells #[.bool o.w, .string o.s, .int .i64 o.v, .int .i64 o.b, .int .i64 o.e] 29)
  have hB0 := Bx.new w o 29
  have hg1 := (hb0.cell (p := ⟨g, 0, none⟩) (World.block_lt_of_cell? _ _ hg)).trans hg
  have hm1 := hm.kept (w' := w.alloc (.cells #[.bool o.w, .string o.s, .int .i64 o.v, .int .i64 o.b, .int .i64 o.e] 29)) (hb0.block mb hm.lt)
  have hlk := hm1.lookOk keyedO mapO (Try.zeroValue29 _) (keyOf_int_mk Try.underlying3 hv)
  rw [hx] at hlk
  have HH : Hid (hrdB x o = if o.v = 0 then o.s.toList.isEmpty else hrdM x o) := rfl
  generalize hrdB x o = z at *
  obtain ⟨ow, os, ov, ob, oe⟩ := o
  dsimp only at *
  clear hg hm hm1 hx hv
  obtain ⟨y0, y1, y2, y3, y4⟩ := hB0
  dsimp only at y0 y1 y2 y3 y4
  by_cases h0 : ov = 0
  · have h0b : (ov == 0) = true := by simp [h0]
    have HZ : Hid (z = os.toList.isEmpty) := by show z = _; rw [HH.out, if_pos h0]
    clear h0 HH hlk
    go_enter Try.func32, Try.ntmps32
    go_wp2_with fail
    go_ret
    exact ⟨by rw [HZ.out]; rfl, hb0⟩
  · have h0b : (ov == 0) = false := by simp [h0]
    cases x with
    | none =>
      have HZ : Hid (z = false) := by show z = _; rw [HH.out, if_neg h0]; rfl
      have hlk2 : (Instr.lookup 64 (.map (some mb)) (.int .i64 ov) true).run Try.prog (w.alloc (.cells #[.bool ow, .string os, .int .i64 ov, .int .i64 ob, .int .i64 oe] 29)) = .ok (.tuple #[.agg #[.bool false, .string ⟨#[]⟩, .int .i64 0, .int .i64 0, .int .i64 0], .bool false]) (w.alloc (.cells #[.bool ow, .string os, .int .i64 ov, .int .i64 ob, .int .i64 oe] 29)) := hlk
      clear h0 HH hlk
      have hb1 := hb0.trans ((below_alloc (w.alloc (.cells #[.bool ow, .string os, .int .i64 ov, .int .i64 ob, .int .i64 oe] 29)) (.cells #[.bool false, .string ⟨#[]⟩, .int .i64 0, .int .i64 0, .int .i64 0] 29)).mono hb0.size)
      go_enter Try.func32, Try.ntmps32
      go_wp2_with fail
      go_ret
      exact ⟨by rw [HZ.out]; rfl, hb1⟩
    | some u =>
      obtain ⟨uw, us, uv, ub, ue⟩ := u
      have hlk2 : (Instr.lookup 64 (.map (some mb)) (.int .i64 ov) true).run Try.prog (w.alloc (.cells #[.bool ow, .string os, .int .i64 ov, .int .i64 ob, .int .i64 oe] 29)) = .ok (.tuple #[.agg #[.bool uw, .string us, .int .i64 uv, .int .i64 ub, .int .i64 ue], .bool true]) (w.alloc (.cells #[.bool ow, .string os, .int .i64 ov, .int .i64 ob, .int .i64 oe] 29)) := hlk
      have HZ : Hid (z = ((us.toList == os.toList) && decide (ub < oe))) := by show z = _; rw [HH.out, if_neg h0]; rfl
      clear h0 HH hlk
      have hb1 := hb0.trans ((below_alloc (w.alloc (.cells #[.bool ow, .string os, .int .i64 ov, .int .i64 ob, .int .i64 oe] 29)) (.cells #[.bool uw, .string us, .int .i64 uv, .int .i64 ub, .int .i64 ue] 29)).mono hb0.size)
      have hC0 := Bx.new (w.alloc (.cells #[.bool ow, .string os, .int .i64 ov, .int .i64 ob, .int .i64 oe] 29)) ⟨uw, us, uv, ub, ue⟩ 29
      obtain ⟨q0, q1, q2, q3, q4⟩ := hC0
      have hD0 := (Bx.new w ⟨ow, os, ov, ob, oe⟩ 29).below (below_alloc (w.alloc (.cells #[.bool ow, .string os, .int .i64 ov, .int .i64 ob, .int .i64 oe] 29)) (.cells #[.bool uw, .string us, .int .i64 uv, .int .i64 ub, .int .i64 ue] 29))
      obtain ⟨p0, p1, p2, p3, p4⟩ := hD0
      dsimp only at q0 q1 q2 q3 q4 p0 p1 p2 p3 p4
      generalize hs : (us.toList == os.toList) = sb at *
      cases sb with
      | true =>
        go_enter Try.func32, Try.ntmps32
        go_wp2_with fail
        go_ret
        exact ⟨by rw [HZ.out]; rfl, hb1⟩
      | false =>
        go_enter Try.func32, Try.ntmps32
        go_wp2_with fail
        go_ret
        exact ⟨by rw [HZ.out]; rfl, hb1⟩

/-- What is wrong with a call. -/
def wrongB (x : Option Lo) (o : Lo) : Bool := o.ans && (!plc o && (o.w || !hrdB x o))

set_option maxRecDepth 20000 in
set_option maxHeartbeats 4000000 in
theorem wrong_any {w : World} {g g8 mb cnt : Nat} {f : Value → Option Value} (hg : w.cell? ⟨g, 0, none⟩ = some (.map (some mb))) (hg8 : w.cell? ⟨g8, 0, none⟩ = some (.func (.func 32) #[] #[.pointer (some ⟨g, 0, none⟩)])) (hm : MapIs Try.prog 3 w mb cnt f) (o : Lo) (hv : Vf o.v) (x : Option Lo) (hx : f (.int .i64 o.v) = x.map opV) :
    Calls Try.prog 33 #[.agg #[.bool o.w, .string o.s, .int .i64 o.v, .int .i64 o.b, .int .i64 o.e], .pointer (some ⟨g8, 0, none⟩)] w fun e w' => e = .returned (.bool (wrongB x o)) ∧ Below w.heap.size w w' := by
  have hA := fun W => answered_any o W
  have hP := fun W => placed_any o W
  have hH := fun W (hb : Below w.heap.size w W) => heard_any (w := W) ((hb.cell (p := ⟨g, 0, none⟩) (World.block_lt_of_cell? _ _ hg)).trans hg) (hm.kept (hb.block mb hm.lt)) o hv x hx
  have h8 := fun W (hb : Below w.heap.size w W) => (hb.cell (p := ⟨g8, 0, none⟩) (World.block_lt_of_cell? _ _ hg8)).trans hg8
  have hb0 := below_alloc w (.cells #[.bool o.w, .string o.s, .int .i64 o.v, .int .i64 o.b, .int .i64 o.e] 29)
  have hB0 := Bx.new w o 29
  have hcf : ∀ (args : Array Value) (w : World), (callFunc 32 args).run Try.prog w = .ok (.enter 32 args) w := cf_of Try.func32 (by kernel_rfl) (by kernel_rfl)
  have HW : Hid (wrongB x o = (o.ans && (!plc o && (o.w || !hrdB x o)))) := rfl
  generalize wrongB x o = z at *
  generalize o.ans = za at *
  generalize plc o = zp at *
  generalize hrdB x o = zh at *
  obtain ⟨ow, os, ov, ob, oe⟩ := o
  dsimp only at *
  clear hg hg8 hm hx hv
  go_enter Try.func33, Try.ntmps33
  go_wp2_with fail
  generalize (w.alloc (.cells #[.bool ow, .string os, .int .i64 ov, .int .i64 ob, .int .i64 oe] 29)) = w1 at *
  refine (hA _).mono ?_
  rintro e w8 ⟨rfl, hb8⟩
  have hb := hb0.trans (hb8.mono hb0.size)
  have hB8 := hB0.below hb8
  clear hA hB0 hb0 hb8
  cases za with
  | false =>
    have HZ : Hid (z = false) := by show z = _; rw [HW.out]; rfl
    clear HW hP hH h8 hB8
    go_wp2_with fail
    go_ret
    exact ⟨by rw [HZ.out]; rfl, hb⟩
  | true =>
    obtain ⟨y0, y1, y2, y3, y4⟩ := hB8
    dsimp only at y0 y1 y2 y3 y4
    have hB8 := (show Bx w8 w.heap.size ⟨ow, os, ov, ob, oe⟩ from ⟨y0, y1, y2, y3, y4⟩)
    go_wp2_with fail
    refine (hP _).mono ?_
    rintro e w9 ⟨rfl, hb9⟩
    have hbn := hb.trans (hb9.mono hb.size)
    have hB9 := hB8.below hb9
    clear hP hB8 hb9 hb y0 y1 y2 y3 y4
    obtain ⟨y0, y1, y2, y3, y4⟩ := hB9
    dsimp only at y0 y1 y2 y3 y4
    cases zp with
    | true =>
      have HZ : Hid (z = false) := by show z = _; rw [HW.out]; rfl
      clear HW hH h8
      go_wp2_with fail
      go_ret
      exact ⟨by rw [HZ.out]; rfl, hbn⟩
    | false =>
      cases ow with
      | true =>
        have HZ : Hid (z = true) := by show z = _; rw [HW.out]; rfl
        clear HW hH h8
        go_wp2_with fail
        go_ret
        exact ⟨by rw [HZ.out]; rfl, hbn⟩
      | false =>
        have HZ : Hid (z = !zh) := by show z = _; rw [HW.out]; rfl
        have h88 := h8 _ hbn
        have hHH := hH _ hbn
        clear HW hH h8
        go_wp2_with fail
        refine hHH.mono ?_
        rintro e w10 ⟨rfl, hb10⟩
        clear hHH h88 y0 y1 y2 y3 y4
        go_wp2_with fail
        go_ret
        exact ⟨by rw [HZ.out]; rfl, hbn.trans (hb10.mono hbn.size)⟩

end Go.Proofs.Ytmfmjoibofadlaa.M
