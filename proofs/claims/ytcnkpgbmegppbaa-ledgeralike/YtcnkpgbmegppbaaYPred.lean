/-
  Own text: members that are asked by a function: the library's IndexFunc and ContainsFunc, layout's those, Nodes, Whole.
-/
import Derived.Test.YtcnkpgbmegppbaaYSame
namespace Go.Proofs.Ytcnkpgbmegppbaa.M
open Go.ChangeShapes Go.WideShapes Go.ChangeAt Go.RowKit

theorem cf_of {F : FuncId} {fn : Func} (h : Try.prog.funcs[F]? = some fn) (h1 : (fn.name == "runtime.NumGoroutine") = false) (h2 : fn.body.isNone = false) (args : Array Value) (w : World) : (callFunc F args).run Try.prog w = .ok (.enter F args) w := by
  have h3 : ¬ fn.name = "runtime.NumGoroutine" := fun e => by rw [e] at h1; simp at h1
  have h4 : ¬ fn.body = none := fun e => by rw [e] at h2; cases h2
  unfold callFunc
  simp [Sem.run_bind, h, h3, h4]

/-- A function that may be called by its value. -/
def Cf (F : FuncId) : Prop := ∀ (args : Array Value) (w : World), (callFunc F args).run Try.prog w = .ok (.enter F args) w

/-- A function that asks a member, in every world in which all that lay in w lies as it did; it lays memory of its own alone. -/
def Asks (F : FuncId) (caps : Array Value) (w : World) (pr : Mb → Bool) : Prop :=
  ∀ (W : World) (m : Mb), Below w.heap.size w W → Calls Try.prog F (#[.agg #[.int .i64 m.n, .int .i64 m.s, .bool m.f]] ++ caps) W fun e w' => e = .returned (.bool (pr m)) ∧ Below W.heap.size W w'

theorem Asks.later {F : FuncId} {caps : Array Value} {w w' : World} {pr : Mb → Bool} (h : Asks F caps w pr) (hb : Below w.heap.size w w') : Asks F caps w' pr :=
  fun W m hW => h W m (hb.trans (hW.mono hb.size))

/-- The first place of which something is so, from k on; -1: none. -/
def ixM (pr : Mb → Bool) : Nat → List Mb → Int
  | _, [] => -1
  | k, m :: l => if pr m = true then (k : Int) else ixM pr (k + 1) l

set_option maxRecDepth 20000 in
set_option maxHeartbeats 1000000 in
theorem indexF_any (F : FuncId) (hcf : Cf F) (caps : Array Value) (pr : Mb → Bool) (p : Option Addr) (n c : Nat) (ms : List Mb) (w : World) (hr : RdM w p n c ms) (hn : n ≤ 5864062014805) (hA : Asks F caps w pr) :
    Calls Try.prog 48 #[.slice p n c, .func (.func F) #[] caps] w fun e w' => e = .returned (.int .i64 (ixM pr 0 ms)) ∧ Below w.heap.size w w' := by
  have hl := hr.len
  have hcf' : ∀ (args : Array Value) (w : World), (callFunc F args).run Try.prog w = .ok (.enter F args) w := hcf
  clear hcf
  go_enter Try.func48, Try.ntmps48
  go_wp2_with fail
  go_loopw [8] (fun i wr => ∃ k : Nat, k ≤ n ∧ i = .int .i64 k ∧ Hid (ixM pr 0 ms = ixM pr k (ms.drop k)) ∧ Below w.heap.size w wr) (fun i _ => n - (intOf i).toNat)
  case atStart => exact ⟨0, Nat.zero_le _, rfl, rfl, Below.refl _ _⟩
  case round =>
    obtain ⟨k, hk, rfl, HG, hb⟩ := hrel
    by_cases h : k < n
    · obtain ⟨b, o, rfl, hc⟩ := (hr.below hb).cells (by omega)
      obtain ⟨x1, x2, x3⟩ := hc k h
      have hk1 : (k : Int) < (n : Int) := by omega
      have hd := drop_mb (fs := ms) (k := k) (by omega)
      have hG2 := HG.out
      rw [hd] at hG2
      clear HG hd hc hr
      have hA2 := hA wr (ms.getD k .z0) hb
      generalize ms.getD k .z0 = m at *
      obtain ⟨mn, msi, mf⟩ := m
      dsimp only at x1 x2 x3 hA2
      have HG3 : Hid (ixM pr 0 ms = if pr ⟨mn, msi, mf⟩ = true then (k : Int) else ixM pr (k + 1) (ms.drop (k + 1))) := hG2
      clear hG2
      generalize pr ⟨mn, msi, mf⟩ = b1 at *
      go_wp2_with fail
      refine hA2.mono ?_
      rintro r w1 ⟨rfl, hb1⟩
      have hbb := hb.trans (hb1.mono hb.size)
      cases b1 with
      | true =>
        have HN : Hid (ixM pr 0 ms = (k : Int)) := by unfold Hid; rw [HG3.out]; rfl
        clear hA hA2 HG3
        go_wp2_with fail
        go_ret
        exact ⟨ret_int HN.out.symm, hbb⟩
      | false =>
        have HN : Hid (ixM pr 0 ms = ixM pr (k + 1) (ms.drop (k + 1))) := by unfold Hid; rw [HG3.out]; rfl
        clear hA2 HG3
        go_wp2_with fail
        go_roundw
        case rel => exact ⟨k + 1, by omega, by go_num, HN, hbb⟩
        case measure => simp [intOf]; omega
    · obtain rfl : k = n := by omega
      have HN : Hid (ixM pr 0 ms = -1) := by
        unfold Hid; rw [HG.out, List.drop_of_length_le (by omega)]; rfl
      clear hr HG hA
      go_wp2_with fail
      go_ret
      exact ⟨ret_int HN.out.symm, hb⟩

/-- The set of those of which something is so. -/
def thN (pr : Mb → Bool) : Nat → List Mb → Nat
  | x, [] => x
  | x, m :: l => thN pr (if pr m = true then x ||| bitN m.n else x) l

theorem thN_lt (pr : Mb → Bool) : ∀ (l : List Mb) (x : Nat), x < 18446744073709551616 → thN pr x l < 18446744073709551616
  | [], _, h => h
  | m :: l, x, h => by
    unfold thN
    apply thN_lt pr l
    split
    · exact or_lt64 h (bitN_lt _)
    · exact h

set_option maxRecDepth 20000 in
set_option maxHeartbeats 1000000 in
theorem those_any (F : FuncId) (hcf : Cf F) (caps : Array Value) (pr : Mb → Bool) (e : Int) (p : Option Addr) (n c : Nat) (ms : List Mb) (w : World) (hr : RdM w p n c ms) (hn : n ≤ 5864062014805) (hA : Asks F caps w pr) :
    Calls Try.prog 50 #[.agg #[.int .i64 e, .slice p n c], .func (.func F) #[] caps] w fun e w' => e = .returned (.int .u64 ((thN pr 0 ms : Nat) : Int)) ∧ Below w.heap.size w w' := by
  have hl := hr.len
  have hb0 : Below w.heap.size w (w.alloc (.cells #[.int .i64 e, .slice p n c] 42)) := (Below.refl _ _).alloc (Nat.le_refl _) _
  have hcf' : ∀ (args : Array Value) (w : World), (callFunc F args).run Try.prog w = .ok (.enter F args) w := hcf
  clear hcf
  go_enter Try.func50, Try.ntmps50
  go_wp2_with fail
  go_loopw [5, 11] (fun x i wr => ∃ k X : Nat, k ≤ n ∧ X < 18446744073709551616 ∧ i = .int .i64 k ∧ x = .int .u64 X ∧ Hid (thN pr 0 ms = thN pr X (ms.drop k)) ∧ Below w.heap.size w wr) (fun _ i _ => n - (intOf i).toNat)
  case atStart => exact ⟨0, 0, Nat.zero_le _, by decide, rfl, rfl, rfl, hb0⟩
  case round =>
    clear hb0
    obtain ⟨k, X, hk, hX, rfl, rfl, HG, hb⟩ := hrel
    by_cases h : k < n
    · obtain ⟨b, o, rfl, hc⟩ := (hr.below hb).cells (by omega)
      obtain ⟨x1, x2, x3⟩ := hc k h
      have hk1 : (k : Int) < (n : Int) := by omega
      have hd := drop_mb (fs := ms) (k := k) (by omega)
      have hG2 := HG.out
      rw [hd] at hG2
      clear HG hd hc
      have hA2 := fun W => hA W (ms.getD k .z0)
      generalize ms.getD k .z0 = m at *
      obtain ⟨mn, msi, mf⟩ := m
      dsimp only at x1 x2 x3 hA2
      have hba := hb.alloc hb.size (.cells #[.int .i64 mn, .int .i64 msi, .bool mf] 48)
      have HG3 : Hid (thN pr 0 ms = thN pr (if pr ⟨mn, msi, mf⟩ = true then X ||| bitN mn else X) (ms.drop (k + 1))) := hG2
      clear hG2
      have hW := fun W => with_any X mn W hX
      have hXl := or_lt64 hX (bitN_lt mn)
      generalize X ||| bitN mn = X2 at *
      generalize pr ⟨mn, msi, mf⟩ = b1 at *
      replace hA2 := hA2 _ hba
      go_wp2_with fail
      refine hA2.mono ?_
      rintro r w1 ⟨rfl, hb1⟩
      have hbb := hba.trans (hb1.mono hba.size)
      have d0 : w1.cell? ⟨wr.heap.size, 0, none⟩ = some (.int .i64 mn) := by rw [hb1.cell (p := ⟨wr.heap.size, 0, none⟩) (by simp)]; simp
      clear x1 x2 x3 hb hb1 hba hA2
      cases b1 with
      | true =>
        have HN : Hid (thN pr 0 ms = thN pr X2 (ms.drop (k + 1))) := HG3.out
        clear HG3
        go_wp2_with fail
        refine (hW _).mono ?_
        rintro r w2 ⟨rfl, hw⟩
        subst hw
        go_wp2_with fail
        go_roundw
        case rel => exact ⟨k + 1, X2, by omega, hXl, by go_num, rfl, HN, hbb⟩
        case measure => simp [intOf]; omega
      | false =>
        have HN : Hid (thN pr 0 ms = thN pr X (ms.drop (k + 1))) := HG3.out
        clear HG3
        go_wp2_with fail
        go_roundw
        case rel => exact ⟨k + 1, X, by omega, hX, by go_num, rfl, HN, hbb⟩
        case measure => simp [intOf]; omega
    · obtain rfl : k = n := by omega
      have HN : Hid (thN pr 0 ms = X) := by
        unfold Hid; rw [HG.out, List.drop_of_length_le (by omega)]; rfl
      clear hr HG hA
      go_wp2_with fail
      go_ret
      exact ⟨ret_int (by rw [HN.out]), hb⟩

theorem cfAll : Cf 51 := fun args w => cf_of Try.func51 (by kernel_rfl) (by kernel_rfl) args w

theorem cfWhole : Cf 83 := fun args w => cf_of Try.func83 (by kernel_rfl) (by kernel_rfl) args w

theorem cfFresh : Cf 63 := fun args w => cf_of Try.func63 (by kernel_rfl) (by kernel_rfl) args w

theorem cfIs : Cf 69 := fun args w => cf_of Try.func69 (by kernel_rfl) (by kernel_rfl) args w

theorem asksAll (w : World) : Asks 51 #[] w (fun _ => true) := fun W m _ => all_one m W

theorem asksWhole (w : World) : Asks 83 #[] w (fun m => !m.f) := fun W m _ => whole_any m W

theorem asksFresh (w : World) : Asks 63 #[] w (fun m => m.f) := fun W m _ => fresh_any m W

set_option maxRecDepth 20000 in

theorem asksIs (w : World) (B : Nat) (node : Int) (h : w.cell? ⟨B, 0, none⟩ = some (.int .i64 node)) : Asks 69 #[.pointer (some ⟨B, 0, none⟩)] w (fun m => m.n == node) := fun W m hb => by
  have hc := (hb.cell (p := ⟨B, 0, none⟩) (World.block_lt_of_cell? _ _ h)).trans h
  have hba : Below W.heap.size W (W.alloc (.cells #[.int .i64 m.n, .int .i64 m.s, .bool m.f] 48)) := (Below.refl _ _).alloc (Nat.le_refl _) _
  have hcb := (hba.cell (p := ⟨B, 0, none⟩) (World.block_lt_of_cell? _ _ hc)).trans hc
  obtain ⟨n, s, f⟩ := m
  dsimp only at hba hcb ⊢
  clear h hb
  go_enter Try.func69, Try.ntmps69
  go_wp2
  go_ret
  exact ⟨rfl, hba⟩

set_option maxRecDepth 20000 in
theorem is_any (node : Int) (w : World) : Calls Try.prog 49 #[.int .i64 node] w fun e w' => e = .returned (.func (.func 69) #[] #[.pointer (some ⟨w.heap.size, 0, none⟩)]) ∧ w'.cell? ⟨w.heap.size, 0, none⟩ = some (.int .i64 node) ∧ Below w.heap.size w w' := by
  go_enter Try.func49, Try.ntmps49
  go_wp2
  go_ret
  exact ⟨rfl, by simp, (Below.refl _ _).alloc (Nat.le_refl _) _⟩

set_option maxRecDepth 20000 in
theorem Nodes_any (e : Int) (p : Option Addr) (n c : Nat) (ms : List Mb) (w : World) (hr : RdM w p n c ms) (hn : n ≤ 5864062014805) :
    Calls Try.prog 23 #[.agg #[.int .i64 e, .slice p n c]] w fun r w' => r = .returned (.int .u64 ((thN (fun _ => true) 0 ms : Nat) : Int)) ∧ Below w.heap.size w w' := by
  have hb0 : Below w.heap.size w (w.alloc (.cells #[.int .i64 e, .slice p n c] 42)) := (Below.refl _ _).alloc (Nat.le_refl _) _
  have hT := those_any _ cfAll #[] _ e p n c ms _ (hr.below hb0) hn (asksAll _)
  generalize thN (fun _ => true) 0 ms = X at *
  clear hr
  go_enter Try.func23, Try.ntmps23
  go_wp2_with fail
  refine hT.mono ?_
  rintro r w1 ⟨rfl, hb1⟩
  go_wp2_with fail
  go_ret
  exact ⟨rfl, hb0.trans (hb1.mono hb0.size)⟩

end Go.Proofs.Ytcnkpgbmegppbaa.M
