/-
  Own text: keys of eight bytes as numbers; a key's text, and whether a text is one; whether a key, and a value, may be.
-/
import Derived.Test.YtnbgdkdnlfomeaaDoorRows
import Derived.Test.YtnbgdkdnlfomeaaDoorMem
import Derived.Test.YtnbgdkdnlfomeaaDoorPure
import Derived.Test.YtnbgdkdnlfomeaaDoorZArr
import Derived.Shelf.Unicode.ValidAny
import Derived.Lib.Strings
import Derived.Lib.Slices
import Derived.Lib.Walk
import Derived.Lib.Bytealg
import Derived.Deep.QuietTactic
import Derived.BigQuiet
import Derived.WalkSmall
import Derived.WalkSpells
import Derived.Laws.BytesArg
import Derived.Lib.ConvBytes
import Derived.Lib.LazyBuf
import Derived.Lib.BufferWrite
import Derived.Lib.Bytes
import Derived.Laws.Externs
import Derived.Laws.StructEq
import Derived.ChangeKeysEq
import Derived.Lib.QuietBelow
namespace Go.Proofs.YtnbgdkdnlfomeaaDoor.M
open Go.ChangeShapes Go.WideShapes Go.ChangeAt Go.RowKit Go.Shelf Go.Proofs
set_option linter.unusedSimpArgs false

theorem ret_int {k : IntKind} {a b : Int} (h : a = b) : Ending.returned (.int k a) = .returned (.int k b) := by rw [h]

theorem ret_bool {a b : Bool} (h : a = b) : Ending.returned (.bool a) = .returned (.bool b) := by rw [h]

/-- Each number is a byte's. -/
def Byt (xs : List Int) : Prop := ∀ x ∈ xs, 0 ≤ x ∧ x < 256

theorem Byt.get {l : List Int} (h : Byt l) (i : Nat) : 0 ≤ l.getD i 0 ∧ l.getD i 0 < 256 := by
  rw [List.getD_eq_getElem?_getD]
  rcases Nat.lt_or_ge i l.length with hi | hi
  · rw [List.getElem?_eq_getElem hi]
    exact h _ (List.getElem_mem hi)
  · rw [List.getElem?_eq_none hi]
    decide

/-- The first bytes as a number, the highest first. -/
def shN (l : List Int) : Nat → Nat
  | 0 => 0
  | k + 1 => 256 * shN l k + (l.getD k 0).toNat

theorem shN_lt {l : List Int} (h : Byt l) : ∀ k, shN l k < 256 ^ k
  | 0 => by show 0 < 1; decide
  | k + 1 => by
    have h1 := shN_lt h k
    have h2 := h.get k
    rw [Nat.pow_succ]
    show 256 * shN l k + (l.getD k 0).toNat < _
    omega

theorem infoKy : (Tryd.prog.info? 28).map (·.size) = some 8 := by kernel_rfl

/-- The bytes of a number. -/
def eigL (n : Nat) : List Int := (List.range 8).map fun i => ((n / 2 ^ (56 - 8 * i) % 256 : Nat) : Int)

/-- The bytes that have been laid. -/
def eigP (n k : Nat) : List Int := (List.range 8).map fun i => if i < k then (eigL n).getD i 0 else 0

theorem eigL_len (n : Nat) : (eigL n).length = 8 := by simp [eigL]
theorem eigP_len (n k : Nat) : (eigP n k).length = 8 := by simp [eigP]
theorem eigP_zero (n : Nat) : eigP n 0 = List.replicate 8 0 := rfl
theorem eigP_end (n : Nat) : eigP n 8 = eigL n := rfl

theorem eigL_get (n : Nat) {k : Nat} (hk : k < 8) : (eigL n).getD k 0 = ((n / 2 ^ (56 - 8 * k) % 256 : Nat) : Int) := by
  rw [List.getD_eq_getElem?_getD, eigL, List.getElem?_map, List.getElem?_range hk]
  rfl

theorem eigL_by (n : Nat) : Byt (eigL n) := fun x hx => by
  unfold eigL at hx
  obtain ⟨i, _, rfl⟩ := List.mem_map.1 hx
  have : n / 2 ^ (56 - 8 * i) % 256 < 256 := Nat.mod_lt _ (by decide)
  omega

theorem zero8 : nums .u8 (List.replicate 8 0) = #[.int .u8 0, .int .u8 0, .int .u8 0, .int .u8 0, .int .u8 0, .int .u8 0, .int .u8 0, .int .u8 0] := rfl

theorem two_new8 (w : World) (t : TypeId) :
    ArrI t .u8 ((w.alloc (.cells (nums .u8 (List.replicate 8 0)) t)).alloc (.cells (nums .u8 (List.replicate 8 0)) t)) w.heap.size (List.replicate 8 0) ∧
    ArrI t .u8 ((w.alloc (.cells (nums .u8 (List.replicate 8 0)) t)).alloc (.cells (nums .u8 (List.replicate 8 0)) t)) (w.heap.size + 1) (List.replicate 8 0) ∧
    Below w.heap.size w ((w.alloc (.cells (nums .u8 (List.replicate 8 0)) t)).alloc (.cells (nums .u8 (List.replicate 8 0)) t)) := by
  have s1 : (w.alloc (.cells (nums .u8 (List.replicate 8 0)) t)).heap.size = w.heap.size + 1 := by simp
  have h1 : ArrI t .u8 ((w.alloc (.cells (nums .u8 (List.replicate 8 0)) t)).alloc (.cells (nums .u8 (List.replicate 8 0)) t)) _ _ := ArrI.new t .u8 _ (List.replicate 8 0)
  rw [s1] at h1
  exact ⟨(ArrI.new _ .u8 w _).alloc _, h1, ((Below.refl _ _).alloc (Nat.le_refl _) _).alloc (by simp) _⟩

/-- A byte of a number, the highest first. -/
def bt (n i : Nat) : Int := ((n / 2 ^ (56 - 8 * i) % 256 : Nat) : Int)

theorem eigL_bt (n : Nat) : eigL n = [bt n 0, bt n 1, bt n 2, bt n 3, bt n 4, bt n 5, bt n 6, bt n 7] := rfl

theorem nums_bt (n : Nat) : nums .u8 (eigL n) = #[.int .u8 (bt (n) 0), .int .u8 (bt (n) 1), .int .u8 (bt (n) 2), .int .u8 (bt (n) 3), .int .u8 (bt (n) 4), .int .u8 (bt (n) 5), .int .u8 (bt (n) 6), .int .u8 (bt (n) 7)] := rfl

/-- A number of eight bytes is what its bytes say. -/
theorem sh_eig (n : Nat) (h : n < 18446744073709551616) : shN (eigL n) 8 = n := by
  simp only [shN, eigL_bt, bt, List.getD_cons_zero, List.getD_cons_succ, Int.toNat_natCast]
  omega

theorem sh_get {k : List Int} (hb : Byt k) : ∀ m, ∀ i, i < m → (shN k m / 2 ^ (8 * (m - 1 - i)) % 256 : Nat) = (k.getD i 0).toNat
  | 0, i, h => by omega
  | m + 1, i, h => by
    have h2 := hb.get m
    show ((256 * shN k m + (k.getD m 0).toNat) / 2 ^ (8 * (m - i)) % 256 : Nat) = _
    rcases Nat.eq_or_lt_of_le (Nat.le_of_lt_succ h) with rfl | h1
    · rw [Nat.sub_self, Nat.mul_zero, Nat.pow_zero, Nat.div_one]
      omega
    · have ih := sh_get hb m i h1
      obtain ⟨d, rfl⟩ : ∃ d, m = i + 1 + d := ⟨m - (i + 1), by omega⟩
      rw [show 8 * (i + 1 + d - i) = 8 + 8 * d by omega, Nat.pow_add, ← Nat.div_div_eq_div_mul, show (2 : Nat) ^ 8 = 256 from rfl, show (256 * shN k (i + 1 + d) + (k.getD (i + 1 + d) 0).toNat) / 256 = shN k (i + 1 + d) by omega]
      rw [show 8 * (i + 1 + d - 1 - i) = 8 * d by omega] at ih
      exact ih

theorem eig_sh {k : List Int} (hl : k.length = 8) (hb : Byt k) : eigL (shN k 8) = k := by
  apply List.ext_getElem
  · rw [eigL_len, hl]
  · intro i h1 h2
    have hi : i < 8 := by rw [eigL_len] at h1; exact h1
    have e1 := eigL_get (shN k 8) hi
    have e2 := sh_get hb 8 i hi
    have e3 := hb.get i
    rw [List.getD_eq_getElem?_getD, List.getElem?_eq_getElem h1] at e1
    rw [List.getD_eq_getElem?_getD, List.getElem?_eq_getElem h2] at e2 e3
    simp only [Option.getD_some] at e1 e2 e3
    rw [e1, show 56 - 8 * i = 8 * (8 - 1 - i) by omega, e2]
    omega

theorem sh_lt64 {k : List Int} (hb : Byt k) : shN k 8 < 18446744073709551616 := shN_lt hb 8

theorem Rd.conv {P : Program} {w : World} {p : Option Addr} {n c : Nat} {xs : List Int} (h : Rd .u8 w p n c xs) (src e dst : TypeId) (hs : P.underlying src = some (.slice e)) (he : P.underlying e = some (.int .u8)) (hd : P.underlying dst = some .string) :
    (convert src dst (.slice p n c)).run P w = .ok (.string (strOfNums xs)) w := by
  by_cases hn : n = 0
  · subst hn
    obtain rfl : xs = [] := List.length_eq_zero_iff.1 h.len
    rw [run_convert_bytes_string w src dst e _ _ c hs he hd]
    cases p with
    | none => simp [Conv.bytesToString, strOfNums]; rfl
    | some a =>
      have hl : (loadCells a 0).run P w = .ok #[] w := run_loadCells_list (P := P) w a [] (by simp)
      simp [Conv.bytesToString, hl, strOfNums]
      rfl
  · obtain ⟨b, o, rfl, hc⟩ := h.cells (by omega)
    exact run_convert_bytes_arg (P := P) w src e hs he b o n c xs h.len hc dst hd

/-- The shelf's numbers in this program. -/
def renU : Ren := ⟨fun x => if x = 196 then 80 else if x = 259 then 96 else 0, fun x => if x = 3 then 3 else if x = 4 then 4 else if x = 5 then 5 else if x = 9 then 9 else if x = 12 then 12 else if x = 46 then 59 else if x = 53 then 128 else if x = 119 then 137 else if x = 138 then 139 else if x = 139 then 140 else 0, fun x => if x = 3 then 1 else if x = 4 then 2 else 0⟩

set_option maxRecDepth 100000 in
theorem laysU : Lays.n196 Tryd.prog renU where
  mixed := by kernel_rfl
  f196 := by kernel_rfl
  f259 := by kernel_rfl
  t0 := Tryd.underlying0
  a0 := Tryd.isAgg0
  z0 := Tryd.sizeOf0
  v0 := Tryd.zeroValue0
  t3 := Tryd.underlying3
  a3 := Tryd.isAgg3
  z3 := Tryd.sizeOf3
  v3 := Tryd.zeroValue3
  t4 := Tryd.underlying4
  a4 := Tryd.isAgg4
  z4 := Tryd.sizeOf4
  v4 := Tryd.zeroValue4
  t5 := Tryd.underlying5
  a5 := Tryd.isAgg5
  z5 := Tryd.sizeOf5
  v5 := Tryd.zeroValue5
  t9 := Tryd.underlying9
  a9 := Tryd.isAgg9
  z9 := Tryd.sizeOf9
  v9 := Tryd.zeroValue9
  t12 := Tryd.underlying12
  a12 := Tryd.isAgg12
  z12 := Tryd.sizeOf12
  v12 := Tryd.zeroValue12
  t46 := Tryd.underlying59
  a46 := Tryd.isAgg59
  z46 := Tryd.sizeOf59
  v46 := Tryd.zeroValue59
  t53 := Tryd.underlying128
  a53 := Tryd.isAgg128
  z53 := Tryd.sizeOf128
  v53 := Tryd.zeroValue128
  t119 := Tryd.underlying137
  a119 := Tryd.isAgg137
  z119 := Tryd.sizeOf137
  t138 := Tryd.underlying139
  a138 := Tryd.isAgg139
  z138 := Tryd.sizeOf139
  v138 := Tryd.zeroValue139
  t139 := Tryd.underlying140
  a139 := Tryd.isAgg140
  z139 := Tryd.sizeOf140
  v139 := Tryd.zeroValue140
  g3 := by kernel_rfl
  g4 := by kernel_rfl

/-- The tables that the library reads lie in memory. -/
def Tabs (w : World) : Prop := Lib.Utf8Tabs (renU.g 3) (renU.g 4) w

theorem valid_any (s : ByteArray) (w : World) (hs : s.size ≤ 9223372036854775807) (hT : Tabs w) :
    Calls Tryd.prog 80 #[.string s] w fun e w' => e = .returned (.bool (Lib.validD s.data.toList)) ∧ Below w.heap.size w w' := Any.utf8_ValidString laysU s w hs hT

/-- How many bytes are left, of the first m, without the noughts behind. -/
def trimN (l : List Int) : Nat → Nat
  | 0 => 0
  | m + 1 => if l.getD m 0 = 0 then trimN l m else m + 1

theorem trimN_le (l : List Int) : ∀ m, trimN l m ≤ m
  | 0 => Nat.le_refl _
  | m + 1 => by
    unfold trimN
    split
    · have := trimN_le l m
      omega
    · omega

def lenS : Value → Nat
  | .slice _ n _ => n
  | _ => 0

set_option maxRecDepth 20000 in
set_option maxHeartbeats 1000000 in
theorem trimByte_any (b n c : Nat) (k : List Int) (w : World) (hr : Rd .u8 w (some ⟨b, 0, none⟩) n c k) (hc0 : 0 < c) (hn : n ≤ 1099511627776) :
    Calls Tryd.prog 92 #[.slice (some ⟨b, 0, none⟩) n c, .int .u8 0] w fun e w' => e = .returned (.slice (some ⟨b, 0, none⟩) (trimN k n) c) ∧ w' = w := by
  have hcap := hr.cap
  go_enter Tryd.func92, Tryd.ntmps92
  go_wp2_with fail
  go_loop [0] (fun s => ∃ m : Nat, m ≤ n ∧ s = .slice (some ⟨b, 0, none⟩) m c ∧ Hid (trimN k m = trimN k n)) (fun s => lenS s)
  case atStart => exact ⟨n, Nat.le_refl _, rfl, rfl⟩
  case round =>
    obtain ⟨m, hm, rfl, HT⟩ := hrel
    cases m with
    | zero =>
      have HT2 : Hid (trimN k n = 0) := HT.out.symm
      clear HT
      go_wp2_with fail
      go_ret
      exact ⟨by rw [HT2.out]; rfl, rfl⟩
    | succ j =>
      obtain ⟨b2, o2, e2, hcl⟩ := hr.cells (by omega)
      cases e2
      have hc := hcl j (by omega)
      rw [Nat.zero_add] at hc
      have hj1 : (0 : Int) < ((j + 1 : Nat) : Int) := by omega
      have hj2 : ((j + 1 : Nat) : Int) - 1 = (j : Int) := by omega
      have hj3 : (j : Int) ≤ (c : Int) := by omega
      by_cases hz : k.getD j 0 = 0
      · have HT2 : Hid (trimN k j = trimN k n) := by
          have h1 := HT.out
          rw [show trimN k (j + 1) = if k.getD j 0 = 0 then trimN k j else j + 1 from rfl, if_pos hz] at h1
          exact h1
        rw [hz] at hc
        clear HT hcl hz hr
        go_wp2_with fail
        go_round
        case rel => exact ⟨j, by omega, by go_num, HT2⟩
        case measure => simp [lenS]
      · have HT2 : Hid (trimN k n = j + 1) := by
          have h1 := HT.out
          rw [show trimN k (j + 1) = if k.getD j 0 = 0 then trimN k j else j + 1 from rfl, if_neg hz] at h1
          exact h1.symm
        generalize k.getD j 0 = x at hc hz
        have hx : decide (x = 0) = false := decide_eq_false hz
        have hx2 : (x == 0) = false := by simpa using hz
        clear HT hcl hr
        go_wp2_with fail
        go_ret
        exact ⟨by rw [HT2.out]; rfl, rfl⟩

set_option maxRecDepth 20000 in
set_option maxHeartbeats 1000000 in
theorem trim_any (b n c : Nat) (k : List Int) (w : World) (hr : Rd .u8 w (some ⟨b, 0, none⟩) n c k) (h0 : 0 < n) (hn : n ≤ 1099511627776) :
    Calls Tryd.prog 79 #[.slice (some ⟨b, 0, none⟩) n c, .string ⟨#[0]⟩] w fun e w' => e = .returned (.slice (some ⟨b, 0, none⟩) (trimN k n) c) ∧ w' = w := by
  have hcap := hr.cap
  have hC := trimByte_any b n c k w hr (by omega) hn
  have d1 : decide ((n : Int) = 0) = false := decide_eq_false (by omega)
  have d2 : ((n : Int) == 0) = false := by simp; omega
  have d3 : ((n : Nat) == 0) = false := by simp; omega
  clear hr
  go_enter Tryd.func79, Tryd.ntmps79
  go_wp2_with fail
  refine hC.mono ?_
  rintro e w1 ⟨rfl, rfl⟩
  clear hC
  go_wp2_with fail
  go_ret
  exact ⟨rfl, rfl⟩

theorem Rd.str {w : World} {p : Option Addr} {n c : Nat} {xs : List Int} (h : Rd .u8 w p n c xs) : (convert 109 9 (.slice p n c)).run Tryd.prog w = .ok (.string (strOfNums xs)) w :=
  h.conv (P := Tryd.prog) 109 5 9 Tryd.underlying109 Tryd.underlying5 Tryd.underlying9

theorem Rd.front {w : World} {p : Option Addr} {n c m : Nat} {xs : List Int} (h : Rd .u8 w p n c xs) (hm : m ≤ n) : Rd .u8 w p m c (xs.take m) := by
  refine ⟨by rw [List.length_take, h.len]; omega, Nat.le_trans hm h.cap, h.nil, fun h0 => ?_⟩
  obtain ⟨b, o, e, hc⟩ := h.cells (by omega)
  refine ⟨b, o, e, fun j hj => ?_⟩
  rw [hc j (by omega), List.getD_eq_getElem?_getD, List.getD_eq_getElem?_getD, List.getElem?_take_of_lt hj]

/-- A key's text. -/
def nameL (k : List Int) : List Int := k.take (trimN k 8)

set_option maxRecDepth 20000 in
set_option maxHeartbeats 1000000 in
theorem name_any (k : List Int) (hl : k.length = 8) (w : World) :
    Calls Tryd.prog 72 #[.agg (nums .u8 k)] w fun e w' => e = .returned (.string (strOfNums (nameL k))) ∧ Below w.heap.size w w' := by
  have hba := below_alloc w (.cells (nums .u8 k) 28)
  have hR : Rd .u8 (w.alloc (.cells (nums .u8 k) 28)) (some ⟨w.heap.size, 0, none⟩) 8 8 k := by
    refine ⟨hl, Nat.le_refl _, (fun h => by cases h), fun _ => ⟨w.heap.size, 0, rfl, fun i hi => ?_⟩⟩
    have h := (ArrI.new 28 .u8 w k).cell (i := i) (by omega)
    rw [Nat.zero_add]
    exact h
  have hC := trim_any w.heap.size 8 8 k _ hR (by decide) (by decide)
  have hst := (hR.front (trimN_le k 8)).str
  have HN : Hid (k.take (trimN k 8) = nameL k) := rfl
  rw [HN.out] at hst
  generalize trimN k 8 = m at hC hst
  generalize nameL k = nm at hst ⊢
  clear hR HN
  go_enter Tryd.func72, Tryd.ntmps72
  go_wp2_with fail
  refine hC.mono ?_
  rintro e w1 ⟨rfl, rfl⟩
  clear hC
  go_wp2_with fail
  go_ret
  exact ⟨rfl, hba⟩

theorem bt_inj {a b : Nat} (ha : a < 18446744073709551616) (hb : b < 18446744073709551616) (h : ∀ i, i < 8 → bt a i = bt b i) : a = b := by
  rw [← sh_eig a ha, ← sh_eig b hb, eigL_bt, eigL_bt, h 0 (by decide), h 1 (by decide), h 2 (by decide), h 3 (by decide), h 4 (by decide), h 5 (by decide), h 6 (by decide), h 7 (by decide)]

theorem u8_cells : Tryd.prog.cellsOf 5 = 1 := by kernel_rfl
theorem u8_some : ∃ i, Tryd.prog.info? 5 = some i := by
  have h : (Tryd.prog.info? 5).isSome = true := by kernel_rfl
  exact Option.isSome_iff_exists.1 h

/-- Eight that are the same, or not. -/
def eqBt (a b : Nat) : Bool := (bt a 0 == bt b 0) && ((bt a 1 == bt b 1) && ((bt a 2 == bt b 2) && ((bt a 3 == bt b 3) && ((bt a 4 == bt b 4) && ((bt a 5 == bt b 5) && ((bt a 6 == bt b 6) && (bt a 7 == bt b 7)))))))

theorem eqBt_dec {a b : Nat} (ha : a < 18446744073709551616) (hb : b < 18446744073709551616) : eqBt a b = decide (a = b) := by
  rw [Bool.eq_iff_iff, decide_eq_true_iff]
  constructor
  · intro h
    unfold eqBt at h
    simp only [Bool.and_eq_true, beq_iff_eq] at h
    obtain ⟨h0, h1, h2, h3, h4, h5, h6, h7⟩ := h
    refine bt_inj ha hb fun i hi => ?_
    match i, hi with
    | 0, _ => exact h0
    | 1, _ => exact h1
    | 2, _ => exact h2
    | 3, _ => exact h3
    | 4, _ => exact h4
    | 5, _ => exact h5
    | 6, _ => exact h6
    | 7, _ => exact h7
  · rintro rfl
    unfold eqBt
    simp

theorem eql_key (a b : Nat) (d : Nat) (w : World) : (Op.equalIn (d + 1 + 1) 28 (.agg #[.int .u8 (bt (a) 0), .int .u8 (bt (a) 1), .int .u8 (bt (a) 2), .int .u8 (bt (a) 3), .int .u8 (bt (a) 4), .int .u8 (bt (a) 5), .int .u8 (bt (a) 6), .int .u8 (bt (a) 7)]) (.agg #[.int .u8 (bt (b) 0), .int .u8 (bt (b) 1), .int .u8 (bt (b) 2), .int .u8 (bt (b) 3), .int .u8 (bt (b) 4), .int .u8 (bt (b) 5), .int .u8 (bt (b) 6), .int .u8 (bt (b) 7)])).run Tryd.prog w = .ok (eqBt a b) w := by
  obtain ⟨i, hi⟩ := u8_some
  have hu := Tryd.underlying5
  have ha := Tryd.isAgg5
  rw [run_equalIn_array w (d + 1) _ _ Tryd.underlying28 hi, u8_cells, show List.range 8 = [0, 1, 2, 3, 4, 5, 6, 7] from rfl]
  unfold eqBt
  generalize bt a 0 = x0
  generalize bt a 1 = x1
  generalize bt a 2 = x2
  generalize bt a 3 = x3
  generalize bt a 4 = x4
  generalize bt a 5 = x5
  generalize bt a 6 = x6
  generalize bt a 7 = x7
  simp [Op.eqItems, part, ha, run_equalIn_int w d _ .u8 .u8 _ _ hu]
  repeat (split <;> simp_all)

theorem eql_keys (a b : Nat) (ha : a < 18446744073709551616) (hb : b < 18446744073709551616) (w : World) : (binOp .eql 28 (.agg #[.int .u8 (bt (a) 0), .int .u8 (bt (a) 1), .int .u8 (bt (a) 2), .int .u8 (bt (a) 3), .int .u8 (bt (a) 4), .int .u8 (bt (a) 5), .int .u8 (bt (a) 6), .int .u8 (bt (a) 7)]) (.agg #[.int .u8 (bt (b) 0), .int .u8 (bt (b) 1), .int .u8 (bt (b) 2), .int .u8 (bt (b) 3), .int .u8 (bt (b) 4), .int .u8 (bt (b) 5), .int .u8 (bt (b) 6), .int .u8 (bt (b) 7)])).run Tryd.prog w = .ok (.bool (decide (a = b))) w := by
  rw [run_eql_struct, show (10000 : Nat) = 9998 + 1 + 1 from rfl, eql_key, eqBt_dec ha hb]
  rfl

set_option maxRecDepth 20000 in
theorem slite_any (s : ByteArray) (w : World) : Calls Tryd.prog 81 #[.string s, .int .u8 0] w fun e w' => e = .returned (.int .i64 (Lib.indexByte s.data.toList 0)) ∧ w' = w := by
  have hX : (callFunc 97 #[.string s, .int .u8 0]).run Tryd.prog w = .ok (.value (.int .i64 (Lib.indexByte s.data.toList 0))) w := by
    rw [run_callFunc_extern Tryd.func97 (by kernel_rfl) (by kernel_rfl) (by kernel_rfl) (e := Extern.BytealgIndexByte.indexByte) (by kernel_rfl), Lib.run_indexByteString]
    rfl
  generalize Lib.indexByte s.data.toList 0 = z at hX ⊢
  go_enter Tryd.func81, Tryd.ntmps81
  go_wp2_with (simp only [hX])
  go_ret
  exact ⟨rfl, rfl⟩

set_option maxRecDepth 20000 in
theorem ixByte_any (s : ByteArray) (w : World) : Calls Tryd.prog 74 #[.string s, .int .u8 0] w fun e w' => e = .returned (.int .i64 (Lib.indexByte s.data.toList 0)) ∧ w' = w := by
  have hC := slite_any s w
  generalize Lib.indexByte s.data.toList 0 = z at hC ⊢
  go_enter Tryd.func74, Tryd.ntmps74
  go_wp2_with fail
  refine hC.mono ?_
  rintro e w1 ⟨rfl, rfl⟩
  clear hC
  go_wp2_with fail
  go_ret
  exact ⟨rfl, rfl⟩

/-- Whether bytes are a text of 1 to m bytes. -/
def isTx (s : ByteArray) (m : Nat) : Bool := decide (1 ≤ s.size) && (decide (s.size ≤ m) && Lib.validD s.data.toList)

set_option maxRecDepth 20000 in
theorem isText_any (s : ByteArray) (m : Nat) (w : World) (hs : s.size ≤ 9223372036854775807) (_hm : m ≤ 1099511627776) (hT : Tabs w) : Calls Tryd.prog 73 #[.string s, .int .i64 m] w fun e w' => e = .returned (.bool (isTx s m)) ∧ Below w.heap.size w w' := by
  have hV := valid_any s w (by omega) hT
  unfold isTx
  generalize Lib.validD s.data.toList = v at hV ⊢
  by_cases h1 : 1 ≤ s.size
  · by_cases h2 : s.size ≤ m
    · rw [decide_eq_true h1, decide_eq_true h2]
      go_enter Tryd.func73, Tryd.ntmps73
      go_wp2_with fail
      refine hV.mono ?_
      rintro e w1 ⟨rfl, hb⟩
      clear hV
      go_wp2_with fail
      go_ret
      exact ⟨rfl, hb⟩
    · rw [decide_eq_true h1, decide_eq_false h2]
      have h3 : ¬ (s.size : Int) ≤ (m : Int) := by omega
      clear hV
      go_enter Tryd.func73, Tryd.ntmps73
      go_wp2_with fail
      go_ret
      exact ⟨rfl, Below.refl _ _⟩
  · rw [decide_eq_false h1]
    have h3 : ¬ (1 : Int) ≤ (s.size : Int) := by omega
    clear hV
    go_enter Tryd.func73, Tryd.ntmps73
    go_wp2_with fail
    go_ret
    exact ⟨rfl, Below.refl _ _⟩

theorem Tabs.up {w w' : World} (h : Tabs w) (hb : Below w.heap.size w w') : Tabs w' := Utf8Tabs_below h hb

/-- Whether a text is a key. -/
def okS (s : ByteArray) : Bool := isTx s 8 && decide (Lib.indexByte s.data.toList 0 < 0)

/-- A text's bytes, with noughts behind. -/
def padS (s : ByteArray) : List Int := (s.data.toList.map fun x => (x.toNat : Int)) ++ List.replicate (8 - s.size) 0

theorem padS_len (s : ByteArray) (h : s.size ≤ 8) : (padS s).length = 8 := by
  unfold padS
  rw [List.length_append, List.length_map, List.length_replicate, ← Lib.size_eq]
  omega

theorem pad_row (s : ByteArray) (_h : s.size ≤ 8) : ((nums .u8 (List.replicate 8 0)).toList.take 0 ++ Lib.byteCells s.data.toList ++ (nums .u8 (List.replicate 8 0)).toList.drop (0 + s.size)).toArray = nums .u8 (padS s) := by
  unfold padS nums Lib.byteCells
  rw [List.take_zero, List.nil_append, Nat.zero_add, List.map_append, List.map_map, List.map_replicate]
  simp only [List.toArray_eq_iff, List.drop_replicate]
  simp [Function.comp_def]

theorem copy_pad (s : ByteArray) (h : s.size ≤ 8) (w : World) (g : Nat) (hg : ArrI 28 .u8 w g (List.replicate 8 0)) (ty sT : TypeId) (c : Nat) :
    (Builtin.copy_ #[109, sT] ty #[.slice (some ⟨g, 0, none⟩) 8 c, .string s]).run Tryd.prog w = .ok (goInt s.size) (w.setRow g (nums .u8 (padS s))) := by
  rw [Lib.run_copy_row_string w 109 sT ty 5 g 0 8 c s (nums .u8 (List.replicate 8 0)) 28 Tryd.underlying109 (by kernel_rfl) hg h (by simp [nums]; exact h), pad_row s h]

set_option maxRecDepth 20000 in
set_option maxHeartbeats 1000000 in
theorem key_any (s : ByteArray) (w : World) (hs : s.size ≤ 9223372036854775807) (hT : Tabs w) : Calls Tryd.prog 66 #[.string s] w fun e w' => ∃ xs : List Int, xs.length = 8 ∧ e = .returned (.tuple #[.agg (nums .u8 xs), .int .i64 (if okS s = true then 0 else 91)]) ∧ Below w.heap.size w w' := by
  have hZ0 : ArrI 28 .u8 ((w.alloc (.cells (nums .u8 (List.replicate 8 0)) 28)).alloc (.cells (nums .u8 (List.replicate 8 0)) 28)) w.heap.size (List.replicate 8 0) := (two_new8 w 28).1
  have hK0 : ArrI 28 .u8 ((w.alloc (.cells (nums .u8 (List.replicate 8 0)) 28)).alloc (.cells (nums .u8 (List.replicate 8 0)) 28)) (w.heap.size + 1) (List.replicate 8 0) := (two_new8 w 28).2.1
  have hb0 := (two_new8 w 28).2.2
  have hT0 := hT.up hb0
  rw [zero8] at hZ0 hK0 hb0 hT0
  have hi0 := info_nums .u8 (List.replicate 8 0) infoKy (by simp)
  rw [zero8] at hi0
  by_cases hx : isTx s 8 = true
  · have hs8 : s.size ≤ 8 := by unfold isTx at hx; simp at hx; exact hx.2.1
    by_cases hn : Lib.indexByte s.data.toList 0 < 0
    · have HO : Hid ((if okS s = true then (0 : Int) else 91) = 0) := by unfold Hid okS; rw [hx, decide_eq_true hn]; rfl
      have hC := fun W (h : Tabs W) => isText_any s 8 W hs (by decide) h
      have hI := fun W => ixByte_any s W
      rw [hx] at hC
      have hnn : ¬ (0 : Int) ≤ Lib.indexByte s.data.toList 0 := by omega
      generalize Lib.indexByte s.data.toList 0 = ix at hI hn hnn
      have hcp := fun (W : World) (h : ArrI 28 .u8 W (w.heap.size + 1) (List.replicate 8 0)) => copy_pad s hs8 W _ h
      have hpl := padS_len s hs8
      generalize padS s = pl at hcp hpl
      have hip := info_nums .u8 pl infoKy hpl
      have hszp : (nums .u8 (List.replicate 8 0)).size = (nums .u8 pl).size := by rw [nums_size, nums_size, hpl]; rfl
      rw [HO.out]
      clear HO hx hn hs8
      go_enter Tryd.func66, Tryd.ntmps66
      go_wp2_with fail
      refine (hC _ hT0).mono ?_
      rintro e w1 ⟨rfl, hb1⟩
      have hZ1 := hZ0.below hb1
      have hK1 := hK0.below hb1
      have hbb := hb0.trans (hb1.mono hb0.size)
      clear hC hZ0 hK0 hT0 hb0 hb1
      go_wp2_with fail
      refine (hI _).mono ?_
      rintro e w2 ⟨rfl, rfl⟩
      clear hI
      have hK2 := hK1.setRow pl
      have hZ2 := hZ1.rowOther (w.heap.size + 1) (nums .u8 pl) (by omega)
      have hb2 := hbb.trans (below_setRow w2 (w.heap.size + 1) (nums .u8 pl) (show w.heap.size ≤ w.heap.size + 1 by omega))
      have hZ3 := ArrI.setRow (xs := List.replicate 8 0) hZ2 pl
      have hb3 := hb2.trans (below_setRow _ w.heap.size (nums .u8 pl) (Nat.le_refl _))
      have hcp2 := hcp _ hK1
      clear hcp hZ1 hK1 hbb hb2
      go_wp2_with (first
        | refine wpList_copy_run _ rfl (.tmp 14) (.tmp 15) 109 9 rfl _ _ rfl rfl (hcp2 _ _ _) ?_
        | refine wpList_load_row rfl 28 _ rfl (w.heap.size + 1) rfl _ _ _ _ hK2 Tryd.underlying28 rfl hip ?_
        | refine wpList_store_row rfl 28 _ _ rfl w.heap.size (nums .u8 pl) rfl rfl _ _ hZ2 hip hszp (nums_one _ _) ?_)
      exact bodyPost_ret (results_row_tmp rfl _ _ w.heap.size _ _ _ rfl hZ3 Tryd.underlying28 rfl hip) rfl ⟨pl, hpl, rfl, hb3⟩
    · have HO : Hid ((if okS s = true then (0 : Int) else 91) = 91) := by unfold Hid okS; rw [hx, decide_eq_false hn]; rfl
      have hC := fun W (h : Tabs W) => isText_any s 8 W hs (by decide) h
      have hI := fun W => ixByte_any s W
      rw [hx] at hC
      have hnn : (0 : Int) ≤ Lib.indexByte s.data.toList 0 := by omega
      generalize Lib.indexByte s.data.toList 0 = ix at hI hn hnn
      rw [HO.out]
      clear HO hx hs8
      go_enter Tryd.func66, Tryd.ntmps66
      go_wp2_with fail
      refine (hC _ hT0).mono ?_
      rintro e w1 ⟨rfl, hb1⟩
      have hZ1 := hZ0.below hb1
      have hK1 := hK0.below hb1
      have hbb := hb0.trans (hb1.mono hb0.size)
      clear hC hZ0 hK0 hT0 hb0 hb1
      go_wp2_with fail
      refine (hI _).mono ?_
      rintro e w2 ⟨rfl, rfl⟩
      clear hI
      have hZ3 := ArrI.setRow (xs := List.replicate 8 0) hZ1 (List.replicate 8 0)
      have hb3 := hbb.trans (below_setRow w2 w.heap.size (nums .u8 (List.replicate 8 0)) (Nat.le_refl _))
      rw [zero8] at hZ3 hb3
      go_wp2_with (first
        | refine wpList_load_row rfl 28 _ rfl (w.heap.size + 1) rfl _ _ _ _ hK1 Tryd.underlying28 rfl hi0 ?_
        | refine wpList_store_row rfl 28 _ _ rfl w.heap.size _ rfl rfl _ _ hZ1 hi0 rfl (nums_one _ _) ?_)
      exact bodyPost_ret (results_row_tmp rfl _ _ w.heap.size _ _ _ rfl hZ3 Tryd.underlying28 rfl hi0) rfl ⟨List.replicate 8 0, rfl, rfl, hb3⟩
  · have hx2 : isTx s 8 = false := by simpa using hx
    have HO : Hid ((if okS s = true then (0 : Int) else 91) = 91) := by unfold Hid okS; rw [hx2]; rfl
    have hC := fun W (h : Tabs W) => isText_any s 8 W hs (by decide) h
    rw [hx2] at hC
    rw [HO.out]
    clear HO hx hx2
    go_enter Tryd.func66, Tryd.ntmps66
    go_wp2_with fail
    refine (hC _ hT0).mono ?_
    rintro e w1 ⟨rfl, hb1⟩
    have hZ1 := hZ0.below hb1
    have hK1 := hK0.below hb1
    have hbb := hb0.trans (hb1.mono hb0.size)
    clear hC hZ0 hK0 hT0 hb0 hb1
    have hZ3 := ArrI.setRow (xs := List.replicate 8 0) hZ1 (List.replicate 8 0)
    have hb3 := hbb.trans (below_setRow w1 w.heap.size (nums .u8 (List.replicate 8 0)) (Nat.le_refl _))
    rw [zero8] at hZ3 hb3
    go_wp2_with (first
      | refine wpList_load_row rfl 28 _ rfl (w.heap.size + 1) rfl _ _ _ _ hK1 Tryd.underlying28 rfl hi0 ?_
      | refine wpList_store_row rfl 28 _ _ rfl w.heap.size _ rfl rfl _ _ hZ1 hi0 rfl (nums_one _ _) ?_)
    exact bodyPost_ret (results_row_tmp rfl _ _ w.heap.size _ _ _ rfl hZ3 Tryd.underlying28 rfl hi0) rfl ⟨List.replicate 8 0, rfl, rfl, hb3⟩

/-- Whether a number is a key's. -/
def okK (n : Nat) : Bool := okS (strOfNums (nameL (eigL n)))

theorem name_size (k : List Int) (hl : k.length = 8) : (strOfNums (nameL k)).size ≤ 8 := by
  have h := trimN_le k 8
  rw [strOfNums_size]
  unfold nameL
  rw [List.length_take]
  omega

end Go.Proofs.YtnbgdkdnlfomeaaDoor.M
