/-
  Own text: what becomes of a chain: contracts of layout's last, follow, without, Drop, DropSite.
-/
import Derived.Test.YtdjeafaaclhpkabDoorYIns2
namespace Go.Proofs.YtdjeafaaclhpkabDoor.M
open Go.ChangeShapes Go.WideShapes Go.ChangeAt Go.RowKit

/-- A chain, or why there is none. -/
abbrev CR := Except Int (Int × List Mb)

/-- What is told: none and an error, or a chain that can be read, in memory not below B. -/
def Told (B : Nat) (w : World) (v : Value) : CR → Prop
  | .error k => v = .tuple #[.agg #[.int .i64 0, .slice none 0 0], .int .i64 k]
  | .ok (e, ms) => ∃ q c, v = .tuple #[.agg #[.int .i64 e, .slice q ms.length c], .int .i64 0] ∧ (∀ a, q = some a → 0 < ms.length → B ≤ a.block) ∧ RdM w q ms.length c ms

theorem Told.below {B : Nat} {w w' : World} {v : Value} {R : CR} (h : Told B w v R) (hb : Below w.heap.size w w') : Told B w' v R := by
  match R, h with
  | .error _, h => exact h
  | .ok (_, _), ⟨q, c, h1, h3, h2⟩ => exact ⟨q, c, h1, h3, h2.below hb⟩

theorem Told.lower {B B' : Nat} {w : World} {v : Value} {R : CR} (h : Told B w v R) (hb : B' ≤ B) : Told B' w v R := by
  match R, h with
  | .error _, h => exact h
  | .ok (_, _), ⟨q, c, h1, h3, h2⟩ => exact ⟨q, c, h1, fun a ha hn => Nat.le_trans hb (h3 a ha hn), h2⟩

theorem sizeC : (Tryd.prog.info? 31).map (·.size) = some 2 := by kernel_rfl

theorem results_chain {fn : Func} {p u : Tmp} (h : fn.results = #[.cell p 31, .tmp u]) (tmps : Array Value) (w : World) (g : Nat) (x y : Value) (hp : tmps.getD p undef = .pointer (some ⟨g, 0, none⟩)) (c0 : w.cell? ⟨g, 0, none⟩ = some x) (c1 : w.cell? ⟨g, 1, none⟩ = some y) :
    (results fn tmps).run Tryd.prog w = .ok (.tuple #[.agg #[x, y], tmps.getD u undef]) w := by
  have hp' : tmps[p]?.getD undef = .pointer (some ⟨g, 0, none⟩) := by simpa using hp
  have hl := run_loadVar_mid (P := Tryd.prog) w g 0 31 [x, y] _ (fun j v hj => by
    rw [Nat.zero_add]
    match j, hj with
    | 0, hj => cases hj; exact c0
    | 1, hj => cases hj; exact c1) Tryd.underlying31 rfl sizeC
  simp [results, h, hp', asAddr, hl]

/-- A chain without those of whom something is so. -/
def cutR (pr : Mb → Bool) (e : Int) (ms : List Mb) : CR :=
  if chk e ms = false then .error 80 else if 1099511627776 ≤ e then .error 5 else
  if (ms.filter (fun m => !pr m)).length = ms.length then .error 81 else
  if ixM (fun m => !m.f) 0 (ms.filter (fun m => !pr m)) < 0 then .error 83 else
  .ok (e + 1, (ms.filter (fun m => !pr m)).drop (ixM (fun m => !m.f) 0 (ms.filter (fun m => !pr m))).toNat)

theorem chk_parts {e : Int} {ms : List Mb} (h : chk e ms = true) : 1 ≤ e ∧ e ≤ 1099511627776 ∧ 0 < ms.length ∧ ms.length ≤ 6 := by
  have h2 := h
  rw [← rchk_eq] at h2
  unfold rchk at h2
  simp only [Bool.and_eq_true, decide_eq_true_eq] at h2
  refine ⟨h2.1, h2.2.1, ?_, h2.2.2.1⟩
  cases ms with
  | nil => have := h2.2.2.2.1; cases this
  | cons m l => simp

theorem RdM.back {w : World} {p : Option Addr} {n c k : Nat} {ms : List Mb} (h : RdM w p n c ms) (hk : k < n) : ∃ b o, p = some ⟨b, o, none⟩ ∧ RdM w (some ⟨b, o + k * 3, none⟩) (n - k) (c - k) (ms.drop k) := by
  obtain ⟨b, o, rfl, hc⟩ := h.flat (by omega)
  have hl := h.len
  have hcp := h.cap
  refine ⟨b, o, rfl, RdM.of_flat (by rw [List.length_drop]; omega) (by omega) fun j hj => ?_⟩
  rw [Nat.add_assoc, hc (k * 3 + j) (by omega)]
  have e : j = j / 3 * 3 + j % 3 := by omega
  have hm : j % 3 < 3 := Nat.mod_lt _ (by decide)
  rw [show k * 3 + j = (k + j / 3) * 3 + j % 3 by omega]
  conv => rhs; rw [e]
  refine congrArg some (cellAt_shift ?_ hm)
  rw [List.getD_eq_getElem?_getD, List.getD_eq_getElem?_getD, List.getElem?_drop]

/-- A chain in a box, and behind it the box of a chain that is answered. -/
structure Fr (W : World) (b : Nat) (e : Int) (p : Option Addr) (n c : Nat) : Prop where
  a0 : W.cell? ⟨b, 0, none⟩ = some (.int .i64 e)
  a1 : W.cell? ⟨b, 1, none⟩ = some (.slice p n c)
  b0 : W.cell? ⟨b + 1, 0, none⟩ = some (.int .i64 0)
  b1 : W.cell? ⟨b + 1, 1, none⟩ = some (.slice none 0 0)
  f0 : W.frozen? ⟨b + 1, 0, none⟩ = false
  f1 : W.frozen? ⟨b + 1, 1, none⟩ = false
  lt : b + 1 < W.heap.size

theorem Fr.new (w : World) (e : Int) (p : Option Addr) (n c : Nat) : Fr ((w.alloc (.cells #[.int .i64 e, .slice p n c] 31)).alloc (.cells #[.int .i64 0, .slice none 0 0] 31)) w.heap.size e p n c :=
  ⟨by simp, by simp, by simp, by simp, by simp, by simp, by simp⟩

theorem Fr.low {W W' : World} {B b : Nat} {e : Int} {p : Option Addr} {n c : Nat} (h : Fr W b e p n c) (hb : Below B W W') (hB : b + 1 < B) : Fr W' b e p n c :=
  ⟨(hb.cell (p := ⟨b, 0, none⟩) (by show b < B; omega)).trans h.a0, (hb.cell (p := ⟨b, 1, none⟩) (by show b < B; omega)).trans h.a1, (hb.cell (p := ⟨b + 1, 0, none⟩) hB).trans h.b0, (hb.cell (p := ⟨b + 1, 1, none⟩) hB).trans h.b1, (hb.frozen (p := ⟨b + 1, 0, none⟩) hB).trans h.f0, (hb.frozen (p := ⟨b + 1, 1, none⟩) hB).trans h.f1, Nat.lt_of_lt_of_le h.lt hb.size⟩

theorem Fr.below {W W' : World} {b : Nat} {e : Int} {p : Option Addr} {n c : Nat} (h : Fr W b e p n c) (hb : Below W.heap.size W W') : Fr W' b e p n c := h.low hb h.lt

theorem Fr.put0 {W : World} {b : Nat} {e : Int} {p : Option Addr} {n c : Nat} (h : Fr W b e p n c) (x y : Value) : ((W.setCell ⟨b + 1, 0, none⟩ x).setCell ⟨b + 1, 1, none⟩ y).cell? ⟨b + 1, 0, none⟩ = some x := by
  rw [World.cell?_setCell_other (h := by simp), World.cell?_setCell_same (h := h.b0)]

theorem Fr.put1 {W : World} {b : Nat} {e : Int} {p : Option Addr} {n c : Nat} (h : Fr W b e p n c) (x y : Value) : ((W.setCell ⟨b + 1, 0, none⟩ x).setCell ⟨b + 1, 1, none⟩ y).cell? ⟨b + 1, 1, none⟩ = some y := by
  have e1 : (W.setCell ⟨b + 1, 0, none⟩ x).cell? ⟨b + 1, 1, none⟩ = some (.slice none 0 0) := by
    rw [World.cell?_setCell_other (h := by simp)]
    exact h.b1
  rw [World.cell?_setCell_same (h := e1)]

theorem Fr.putB {W : World} {b : Nat} {w : World} (h : Below b w W) (x y : Value) : Below b w ((W.setCell ⟨b + 1, 0, none⟩ x).setCell ⟨b + 1, 1, none⟩ y) := (h.setCell (by show b ≤ b + 1; omega) x).setCell (by show b ≤ b + 1; omega) y

theorem RdM.put {W : World} {q : Option Addr} {n c b : Nat} {ms : List Mb} (h : RdM W q n c ms) (x y : Value) (hq : ∀ a, q = some a → 0 < n → a.block ≠ b) : RdM ((W.setCell ⟨b, 0, none⟩ x).setCell ⟨b, 1, none⟩ y) q n c ms := by
  refine ⟨h.len, h.cap, h.nil, fun hn => ?_⟩
  obtain ⟨g, o, rfl, hc⟩ := h.cells hn
  have hne := hq _ rfl hn
  have e : ∀ j, ((W.setCell ⟨b, 0, none⟩ x).setCell ⟨b, 1, none⟩ y).cell? ⟨g, j, none⟩ = W.cell? ⟨g, j, none⟩ := fun j => by
    rw [World.cell?_setCell_other (h := fun h => hne (congrArg Addr.block h).symm), World.cell?_setCell_other (h := fun h => hne (congrArg Addr.block h).symm)]
  exact ⟨g, o, rfl, fun i hi => by rw [e, e, e]; exact hc i hi⟩

end Go.Proofs.YtdjeafaaclhpkabDoor.M
