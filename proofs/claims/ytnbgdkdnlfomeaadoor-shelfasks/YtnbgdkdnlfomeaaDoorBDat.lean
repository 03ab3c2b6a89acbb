/-
  Own text: records, cells, and what clients got, as plain data; a map of cells in memory, in the order in which its keys came.
-/
import Derived.Test.YtnbgdkdnlfomeaaDoorBRow
import Derived.Test.YtnbgdkdnlfomeaaDoorBKey
import Derived.Test.YtnbgdkdnlfomeaaDoorNMap
namespace Go.Proofs.YtnbgdkdnlfomeaaDoor.M
open Go.ChangeShapes Go.WideShapes Go.ChangeAt Go.RowKit Go.ChangeMaps Go.MapKept Go.Maps
set_option linter.unusedSimpArgs false

theorem below_alloc' (w : World) (o : Obj) : Below w.heap.size w (w.alloc o) := (Below.refl _ _).alloc (Nat.le_refl _) o

/-- A record: index, epoch, key, version, value, client and number of its request. -/
structure Rc where
  ix : Int
  ep : Int
  k : Nat
  v : Int
  s : ByteArray
  c : Int
  q : Int

def Rc.z0 : Rc := ⟨0, 0, 0, 0, ⟨#[]⟩, 0, 0⟩

/-- A cell: key, version, value. -/
structure Ce where
  k : Nat
  v : Int
  s : ByteArray

def Ce.z0 : Ce := ⟨0, 0, ⟨#[]⟩⟩

/-- What a client got: client, number, version. -/
structure Dn where
  c : Int
  q : Int
  v : Int

def Dn.z0 : Dn := ⟨0, 0, 0⟩

def recS : Shp Rc where
  cs := fun x => [.int .i64 x.ix, .int .i64 x.ep, .int .u8 (bt x.k 0), .int .u8 (bt x.k 1), .int .u8 (bt x.k 2), .int .u8 (bt x.k 3), .int .u8 (bt x.k 4), .int .u8 (bt x.k 5), .int .u8 (bt x.k 6), .int .u8 (bt x.k 7), .int .i64 x.v, .string x.s, .int .i64 x.c, .int .i64 x.q]
  z := .z0
  E := 14
  len := fun _ => rfl
  one := fun x v hv => by
    simp only [List.mem_cons, List.not_mem_nil, or_false] at hv
    rcases hv with rfl | rfl | rfl | rfl | rfl | rfl | rfl | rfl | rfl | rfl | rfl | rfl | rfl | rfl <;> rfl
  pos := by decide

def celS : Shp Ce where
  cs := fun x => [.int .u8 (bt x.k 0), .int .u8 (bt x.k 1), .int .u8 (bt x.k 2), .int .u8 (bt x.k 3), .int .u8 (bt x.k 4), .int .u8 (bt x.k 5), .int .u8 (bt x.k 6), .int .u8 (bt x.k 7), .int .i64 x.v, .string x.s]
  z := .z0
  E := 10
  len := fun _ => rfl
  one := fun x v hv => by
    simp only [List.mem_cons, List.not_mem_nil, or_false] at hv
    rcases hv with rfl | rfl | rfl | rfl | rfl | rfl | rfl | rfl | rfl | rfl <;> rfl
  pos := by decide

def donS : Shp Dn where
  cs := fun x => [.int .i64 x.c, .int .i64 x.q, .int .i64 x.v]
  z := .z0
  E := 3
  len := fun _ => rfl
  one := fun x v hv => by
    simp only [List.mem_cons, List.not_mem_nil, or_false] at hv
    rcases hv with rfl | rfl | rfl <;> rfl
  pos := by decide

theorem rec_at {w : World} {b o : Nat} {x : Rc} (h : ∀ r, r < 14 → w.cell? ⟨b, o + r, none⟩ = some ((recS.cs x).getD r undef)) : w.cell? ⟨b, o, none⟩ = some (.int .i64 x.ix) ∧ w.cell? ⟨b, o + 1, none⟩ = some (.int .i64 x.ep) ∧ w.cell? ⟨b, o + 2, none⟩ = some (.int .u8 (bt x.k 0)) ∧ w.cell? ⟨b, o + 3, none⟩ = some (.int .u8 (bt x.k 1)) ∧ w.cell? ⟨b, o + 4, none⟩ = some (.int .u8 (bt x.k 2)) ∧ w.cell? ⟨b, o + 5, none⟩ = some (.int .u8 (bt x.k 3)) ∧ w.cell? ⟨b, o + 6, none⟩ = some (.int .u8 (bt x.k 4)) ∧ w.cell? ⟨b, o + 7, none⟩ = some (.int .u8 (bt x.k 5)) ∧ w.cell? ⟨b, o + 8, none⟩ = some (.int .u8 (bt x.k 6)) ∧ w.cell? ⟨b, o + 9, none⟩ = some (.int .u8 (bt x.k 7)) ∧ w.cell? ⟨b, o + 10, none⟩ = some (.int .i64 x.v) ∧ w.cell? ⟨b, o + 11, none⟩ = some (.string x.s) ∧ w.cell? ⟨b, o + 12, none⟩ = some (.int .i64 x.c) ∧ w.cell? ⟨b, o + 13, none⟩ = some (.int .i64 x.q) :=
  ⟨h 0 (by decide), h 1 (by decide), h 2 (by decide), h 3 (by decide), h 4 (by decide), h 5 (by decide), h 6 (by decide), h 7 (by decide), h 8 (by decide), h 9 (by decide), h 10 (by decide), h 11 (by decide), h 12 (by decide), h 13 (by decide)⟩

theorem cel_at {w : World} {b o : Nat} {x : Ce} (h : ∀ r, r < 10 → w.cell? ⟨b, o + r, none⟩ = some ((celS.cs x).getD r undef)) : w.cell? ⟨b, o, none⟩ = some (.int .u8 (bt x.k 0)) ∧ w.cell? ⟨b, o + 1, none⟩ = some (.int .u8 (bt x.k 1)) ∧ w.cell? ⟨b, o + 2, none⟩ = some (.int .u8 (bt x.k 2)) ∧ w.cell? ⟨b, o + 3, none⟩ = some (.int .u8 (bt x.k 3)) ∧ w.cell? ⟨b, o + 4, none⟩ = some (.int .u8 (bt x.k 4)) ∧ w.cell? ⟨b, o + 5, none⟩ = some (.int .u8 (bt x.k 5)) ∧ w.cell? ⟨b, o + 6, none⟩ = some (.int .u8 (bt x.k 6)) ∧ w.cell? ⟨b, o + 7, none⟩ = some (.int .u8 (bt x.k 7)) ∧ w.cell? ⟨b, o + 8, none⟩ = some (.int .i64 x.v) ∧ w.cell? ⟨b, o + 9, none⟩ = some (.string x.s) :=
  ⟨h 0 (by decide), h 1 (by decide), h 2 (by decide), h 3 (by decide), h 4 (by decide), h 5 (by decide), h 6 (by decide), h 7 (by decide), h 8 (by decide), h 9 (by decide)⟩

theorem don_at {w : World} {b o : Nat} {x : Dn} (h : ∀ r, r < 3 → w.cell? ⟨b, o + r, none⟩ = some ((donS.cs x).getD r undef)) : w.cell? ⟨b, o, none⟩ = some (.int .i64 x.c) ∧ w.cell? ⟨b, o + 1, none⟩ = some (.int .i64 x.q) ∧ w.cell? ⟨b, o + 2, none⟩ = some (.int .i64 x.v) :=
  ⟨h 0 (by decide), h 1 (by decide), h 2 (by decide)⟩

theorem RdG.rcs {w : World} {p : Option Addr} {n c : Nat} {fs : List Rc} (h : RdG recS w p n c fs) (hn : 0 < n) : ∃ b o, p = some ⟨b, o, none⟩ ∧ ∀ i, i < n → w.cell? ⟨b, o + i * 14, none⟩ = some (.int .i64 (fs.getD i .z0).ix) ∧ w.cell? ⟨b, o + i * 14 + 1, none⟩ = some (.int .i64 (fs.getD i .z0).ep) ∧ w.cell? ⟨b, o + i * 14 + 2, none⟩ = some (.int .u8 (bt (fs.getD i .z0).k 0)) ∧ w.cell? ⟨b, o + i * 14 + 3, none⟩ = some (.int .u8 (bt (fs.getD i .z0).k 1)) ∧ w.cell? ⟨b, o + i * 14 + 4, none⟩ = some (.int .u8 (bt (fs.getD i .z0).k 2)) ∧ w.cell? ⟨b, o + i * 14 + 5, none⟩ = some (.int .u8 (bt (fs.getD i .z0).k 3)) ∧ w.cell? ⟨b, o + i * 14 + 6, none⟩ = some (.int .u8 (bt (fs.getD i .z0).k 4)) ∧ w.cell? ⟨b, o + i * 14 + 7, none⟩ = some (.int .u8 (bt (fs.getD i .z0).k 5)) ∧ w.cell? ⟨b, o + i * 14 + 8, none⟩ = some (.int .u8 (bt (fs.getD i .z0).k 6)) ∧ w.cell? ⟨b, o + i * 14 + 9, none⟩ = some (.int .u8 (bt (fs.getD i .z0).k 7)) ∧ w.cell? ⟨b, o + i * 14 + 10, none⟩ = some (.int .i64 (fs.getD i .z0).v) ∧ w.cell? ⟨b, o + i * 14 + 11, none⟩ = some (.string (fs.getD i .z0).s) ∧ w.cell? ⟨b, o + i * 14 + 12, none⟩ = some (.int .i64 (fs.getD i .z0).c) ∧ w.cell? ⟨b, o + i * 14 + 13, none⟩ = some (.int .i64 (fs.getD i .z0).q) := by
  obtain ⟨b, o, e, hc⟩ := h.at hn
  exact ⟨b, o, e, fun i hi => rec_at (hc i hi)⟩

theorem RdG.ces {w : World} {p : Option Addr} {n c : Nat} {fs : List Ce} (h : RdG celS w p n c fs) (hn : 0 < n) : ∃ b o, p = some ⟨b, o, none⟩ ∧ ∀ i, i < n → w.cell? ⟨b, o + i * 10, none⟩ = some (.int .u8 (bt (fs.getD i .z0).k 0)) ∧ w.cell? ⟨b, o + i * 10 + 1, none⟩ = some (.int .u8 (bt (fs.getD i .z0).k 1)) ∧ w.cell? ⟨b, o + i * 10 + 2, none⟩ = some (.int .u8 (bt (fs.getD i .z0).k 2)) ∧ w.cell? ⟨b, o + i * 10 + 3, none⟩ = some (.int .u8 (bt (fs.getD i .z0).k 3)) ∧ w.cell? ⟨b, o + i * 10 + 4, none⟩ = some (.int .u8 (bt (fs.getD i .z0).k 4)) ∧ w.cell? ⟨b, o + i * 10 + 5, none⟩ = some (.int .u8 (bt (fs.getD i .z0).k 5)) ∧ w.cell? ⟨b, o + i * 10 + 6, none⟩ = some (.int .u8 (bt (fs.getD i .z0).k 6)) ∧ w.cell? ⟨b, o + i * 10 + 7, none⟩ = some (.int .u8 (bt (fs.getD i .z0).k 7)) ∧ w.cell? ⟨b, o + i * 10 + 8, none⟩ = some (.int .i64 (fs.getD i .z0).v) ∧ w.cell? ⟨b, o + i * 10 + 9, none⟩ = some (.string (fs.getD i .z0).s) := by
  obtain ⟨b, o, e, hc⟩ := h.at hn
  exact ⟨b, o, e, fun i hi => cel_at (hc i hi)⟩

theorem RdG.dns {w : World} {p : Option Addr} {n c : Nat} {fs : List Dn} (h : RdG donS w p n c fs) (hn : 0 < n) : ∃ b o, p = some ⟨b, o, none⟩ ∧ ∀ i, i < n → w.cell? ⟨b, o + i * 3, none⟩ = some (.int .i64 (fs.getD i .z0).c) ∧ w.cell? ⟨b, o + i * 3 + 1, none⟩ = some (.int .i64 (fs.getD i .z0).q) ∧ w.cell? ⟨b, o + i * 3 + 2, none⟩ = some (.int .i64 (fs.getD i .z0).v) := by
  obtain ⟨b, o, e, hc⟩ := h.at hn
  exact ⟨b, o, e, fun i hi => don_at (hc i hi)⟩

/-- A key as a value. -/
def keyV (n : Nat) : Value := .agg #[.int .u8 (bt (n) 0), .int .u8 (bt (n) 1), .int .u8 (bt (n) 2), .int .u8 (bt (n) 3), .int .u8 (bt (n) 4), .int .u8 (bt (n) 5), .int .u8 (bt (n) 6), .int .u8 (bt (n) 7)]
/-- A cell as a value. -/
def celV (c : Ce) : Value := .agg #[.int .u8 (bt c.k 0), .int .u8 (bt c.k 1), .int .u8 (bt c.k 2), .int .u8 (bt c.k 3), .int .u8 (bt c.k 4), .int .u8 (bt c.k 5), .int .u8 (bt c.k 6), .int .u8 (bt c.k 7), .int .i64 c.v, .string c.s]

theorem bt_byte (n i : Nat) : 0 ≤ bt n i ∧ bt n i < 256 := by unfold bt; omega

theorem keyV_inj {a b : Nat} (ha : a < 18446744073709551616) (hb : b < 18446744073709551616) (h : keyV a = keyV b) : a = b := by
  unfold keyV at h
  simp at h
  obtain ⟨h0, h1, h2, h3, h4, h5, h6, h7⟩ := h
  refine bt_inj ha hb fun i hi => ?_
  match i, hi with
  | 0, _ => exact h0
  | 1, _ => exact h1
  | 2, _ => exact h2
  | 3, _ => exact h3
  | 4, _ => exact h4
  | 5, _ => exact h5
  | 6, _ => exact h6
  | 7, _ => exact h7

theorem laid : laidOutB Tryd.prog = true := by kernel_rfl

theorem keyLaw : WideMaps.KeyLaw Tryd.prog 28 := deep_law_laid laid (m := 2) (by omega) (of_decide_eq_true (by kernel_rfl)) (by kernel_rfl) (by kernel_rfl)

theorem keyd : Keyed Tryd.prog 28 := Keyed.of_law keyLaw

theorem key_ok (n : Nat) : ∃ kl, keyOf Tryd.prog 28 (keyV n) = some kl := by
  have hkt : Tryd.prog.keyType 28 = true := by kernel_rfl
  have hc : Tryd.prog.cellsOf 28 = 8 := by kernel_rfl
  have hc1 : Tryd.prog.cellsOf 5 = 1 := by kernel_rfl
  have hx : ∀ i, (Lit.int .u8 (bt n i)).wf = true := fun i => by
    have := bt_byte n i
    simp [Lit.wf]
    exact ⟨by show (0 : Int) ≤ _; omega, by show _ ≤ (255 : Int); omega⟩
  obtain ⟨m, hm⟩ : ∃ m, Tryd.prog.types.size = m + 1 := ⟨Tryd.prog.types.size - 1, by kernel_rfl⟩
  refine ⟨.string (keyBytes [.int .u8 (bt n 0), .int .u8 (bt n 1), .int .u8 (bt n 2), .int .u8 (bt n 3), .int .u8 (bt n 4), .int .u8 (bt n 5), .int .u8 (bt n 6), .int .u8 (bt n 7)]), ?_⟩
  unfold keyOf keyV
  simp only [Tryd.underlying28]
  rw [if_pos (by simp [hkt, Value.formed, Tryd.underlying28, hc]), hm]
  unfold Program.keyLits
  simp only [Tryd.underlying28, Value.cells]
  simp [hc1, hc, Program.keyLits, Tryd.underlying5, hx, List.mapM_cons, List.mapM_nil, List.range_succ]

theorem mapK : Tryd.prog.underlying 80 = some (.map 28 53) := Tryd.underlying80

theorem zeroC (w : World) : (zeroValue 53).run Tryd.prog w = .ok (celV .z0) w := Tryd.zeroValue53 w

end Go.Proofs.YtnbgdkdnlfomeaaDoor.M
