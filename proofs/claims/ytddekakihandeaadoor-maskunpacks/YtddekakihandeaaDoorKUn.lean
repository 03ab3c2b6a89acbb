/-
  Own text: the contract of the program's Unpack.
-/
import Derived.Test.YtddekakihandeaaDoorKUnP
import Derived.Test.YtddekakihandeaaDoorKCl
import Derived.Deep.MidRow
namespace Go.Proofs.YtddekakihandeaaDoor.M
open Go.ChangeShapes Go.WideShapes Go.ChangeAt Go.RowKit

/-- A row of room for n fields, of which k are laid. -/
structure OutF (w : World) (g n k : Nat) (L : List Fld) : Prop where
  lt : g < w.heap.size
  there : w.there g 0 (n * 3)
  cells : ∀ j, j < k * 3 → w.cell? ⟨g, j, none⟩ = some (cellAt L j)

theorem OutF.below {w w' : World} {g n k B : Nat} {L : List Fld} (h : OutF w g n k L) (hb : Below B w w') (hB : g < B) : OutF w' g n k L :=
  ⟨Nat.lt_of_lt_of_le h.lt hb.size, fun j hj => ⟨by rw [hb.cell (p := ⟨g, 0 + j, none⟩) hB]; exact (h.there j hj).1, by rw [hb.frozen (p := ⟨g, 0 + j, none⟩) hB]; exact (h.there j hj).2⟩, fun j hj => by rw [hb.cell (p := ⟨g, j, none⟩) hB]; exact h.cells j hj⟩

theorem made_get (z : Array Value) (n : Nat) {j : Nat} (h : j < n) : ∃ v, (madeCells z n)[j]? = some v := by
  refine ⟨_, Array.getElem?_eq_getElem (by rw [size_madeCells]; exact h)⟩

theorem OutF.new (w : World) (z : Array Value) (n : Nat) (L : List Fld) : OutF (w.alloc (.cells (madeCells z (n * 3)) 26)) w.heap.size n 0 L := by
  refine ⟨by simp, fun j hj => ?_, fun j hj => by omega⟩
  obtain ⟨v, hv⟩ := made_get z (n * 3) hj
  refine ⟨?_, ?_⟩
  · simp [hv]
  · rw [Nat.zero_add]
    exact World.frozen?_alloc_at _ _ _ _ rfl

theorem size_setC (b : Nat) : ∀ (vs : List Value) (o : Nat) (w : World), (w.setCells b o vs).heap.size = w.heap.size
  | [], _, _ => rfl
  | v :: r, o, w => by rw [World.setCells, size_setC b r]; simp

theorem below_setC {B b : Nat} {a : World} (hb : B ≤ b) : ∀ (vs : List Value) (o : Nat) (w : World), Below B a w → Below B a (w.setCells b o vs)
  | [], _, _, h => h
  | v :: r, o, w, h => by rw [World.setCells]; exact below_setC hb r _ _ (h.setCell hb v)

theorem OutF.put {w : World} {g n k : Nat} {L : List Fld} (h : OutF w g n k L) (hk : k < n) : OutF (w.setCells g (k * 3) [.int .i64 (L.getD k .z0).b, .int .i64 (L.getD k .z0).v, .bool (L.getD k .z0).s]) g n (k + 1) L := by
  have ht : w.there g (k * 3) 3 := fun j hj => by have := h.there (k * 3 + j) (by omega); rw [Nat.zero_add] at this; exact this
  refine ⟨by rw [size_setC]; exact h.lt, World.there_setCells h.there _ _ _, fun j hj => ?_⟩
  rcases Nat.lt_or_ge j (k * 3) with h1 | h1
  · rw [World.cell?_setCells_out g _ _ w ⟨g, j, none⟩ (fun _ _ => Or.inl h1)]
    exact h.cells j h1
  · obtain ⟨r, rfl⟩ : ∃ r, j = k * 3 + r := ⟨j - k * 3, by omega⟩
    have hr3 : r < 3 := by omega
    have hin := World.cell?_setCells_in g [.int .i64 (L.getD k .z0).b, .int .i64 (L.getD k .z0).v, .bool (L.getD k .z0).s] (k * 3) w (fun i hi => (ht i (by exact hi)).1) r hr3
    rw [hin]
    match r, hr3 with
    | 0, _ => rw [Nat.add_zero, cellAt_0]; rfl
    | 1, _ => rw [cellAt_1]; rfl
    | 2, _ => rw [cellAt_2]; rfl

theorem OutF.rd {w : World} {g n : Nat} {L : List Fld} (h : OutF w g n n L) (hl : L.length = n) : RdF w (some ⟨g, 0, none⟩) n n L :=
  RdF.of_flat hl (Nat.le_refl _) fun j hj => by rw [Nat.zero_add]; exact h.cells j hj

theorem wd_count : ∀ (l : List Fld) (t S : Nat), wdF t l = some S → t + l.length ≤ S
  | [], t, S, h => by cases h; exact Nat.le_refl _
  | f :: l, t, S, h => by
    unfold wdF at h
    by_cases hc : f.b < 1 ∨ (64 : Int) - t < f.b
    · rw [if_pos hc] at h; cases h
    · rw [if_neg hc] at h
      have := wd_count l _ S h
      rw [List.length_cons]
      omega

/-- What Unpack answers. -/
def unV (o : Option (List Fld)) (e : Ending) (w' : World) (n : Nat) : Prop := match o with
  | none => e = .returned (.tuple #[.slice none 0 0, .int .i64 20])
  | some L => ∃ q c, e = .returned (.tuple #[.slice q n c, .int .i64 0]) ∧ RdF w' q n c L

theorem run_makeF (W : World) (n : Nat) (hn : n ≤ 64) : (Instr.makeSlice 22 (.int .i64 n) (.int .i64 n)).run Tryd.prog W = .ok (.slice (some ⟨W.heap.size, 0, none⟩) n n) (W.alloc (.cells (madeCells #[.int .i64 0, .int .i64 0, .bool false] (n * 3)) 26)) := by
  obtain ⟨i, hi, hz, hs, hb⟩ := info_parts infoF
  have h := run_makeSlice W 22 26 i _ Tryd.underlying22 hi hz .i64 .i64 n n (by omega) (by omega) (by rw [hs]; omega) (by rw [hb]; omega) (by omega)
  rw [hs, Int.toNat_natCast] at h
  exact h

theorem oneF (a b : Int) (s : Bool) : (#[.int .i64 a, .int .i64 b, .bool s] : Array Value).all (·.oneCell') = true := by simp [Value.oneCell']

theorem sizeF : (Tryd.prog.info? 26).map (·.size) = some 3 := by kernel_rfl

theorem valF_un (W B : Nat) (fv : Int) : valF W ⟨(B : Int), fv, false⟩ = wrap64 ((W % 2 ^ B : Nat) : Int) := by
  unfold valF
  rw [if_neg Bool.false_ne_true]
  dsimp only
  rw [Int.toNat_natCast]

theorem valF_sg (W B : Nat) (fv : Int) : valF W ⟨(B : Int), fv, true⟩ = sgn W B := by
  unfold valF
  rw [if_pos rfl]
  dsimp only
  rw [Int.toNat_natCast]

theorem upL_cons (W B : Nat) (fv : Int) (sg : Bool) (l : List Fld) : upL W (⟨(B : Int), fv, sg⟩ :: l) = ⟨(B : Int), valF W ⟨(B : Int), fv, sg⟩, sg⟩ :: upL (W / 2 ^ B) l := by
  conv => lhs; unfold upL
  dsimp only
  rw [Int.toNat_natCast]

theorem upL_all (l : List Fld) (W : Nat) (f : Fld) : (upL W (f :: l)).all fitB = (fitB ⟨f.b, valF W f, f.s⟩ && (upL (W / 2 ^ f.b.toNat) l).all fitB) := rfl

set_option maxRecDepth 20000 in
set_option maxHeartbeats 1000000 in
theorem unpack_any (W : Nat) (p : Option Addr) (n c : Nat) (fs : List Fld) (w : World) (hW : W < 18446744073709551616) (hr : RdF w p n c fs) (hok : ∀ f ∈ fs, f.ok) (hn : n ≤ 1099511627776) :
    Calls Tryd.prog 11 #[.int .u64 W, .slice p n c] w fun e w' => unV (unpackF W fs) e w' n ∧ Below w.heap.size w w' := by
  have hl := hr.len
  have hWd := width_any p n c fs w hr hok hn
  cases hwd : wdF 0 fs with
  | none =>
    have HN : Hid (unpackF W fs = none) := by unfold Hid unpackF; rw [hwd]; rfl
    rw [hwd] at hWd
    clear hr hl hwd
    go_enter Tryd.func11, Tryd.ntmps11
    go_wp2_with fail
    refine hWd.mono ?_
    rintro e w1 ⟨rfl, hb⟩
    unfold wdV
    go_wp2_with fail
    go_ret2
    exact ⟨by rw [HN.out]; rfl, hb⟩
  | some S =>
    have hSc := wd_count fs 0 S hwd
    have hSb := (wd_le fs 0 S (by decide) hwd).2
    have HS : Hid (wdF 0 fs = some S) := hwd
    rw [hwd] at hWd
    by_cases h0 : W / 2 ^ S = 0
    · have HP : Hid (unpackF W fs = if (upL W fs).all fitB then some (upL W fs) else none) := by
        unfold Hid unpackF; rw [hwd]
        show (if (decide (W / 2 ^ S = 0) && (upL W fs).all fitB) = true then some (upL W fs) else none) = _
        rw [decide_eq_true h0, Bool.true_and]
      have hz : ((W : Int) / 2 ^ S != 0) = false := by
        rw [show (2 : Int) ^ S = ((2 ^ S : Nat) : Int) by rw [Int.natCast_pow]; rfl, ← Int.natCast_ediv, h0]; rfl
      clear hwd
      have hM := fun V => run_makeF V n (by omega)
      go_enter Tryd.func11, Tryd.ntmps11
      go_wp2_with fail
      refine hWd.mono ?_
      rintro e w1 ⟨rfl, hb⟩
      unfold wdV
      go_wp2_with fail
      have hO0 := OutF.new w1 #[.int .i64 0, .int .i64 0, .bool false] n (upL W fs)
      have hb1 := hb.alloc hb.size (.cells (madeCells #[.int .i64 0, .int .i64 0, .bool false] (n * 3)) 26)
      have hg := hb.size
      generalize w1.heap.size = g at *
      clear hM hz h0
      generalize w1.alloc (.cells (madeCells #[.int .i64 0, .int .i64 0, .bool false] (n * 3)) 26) = w3 at *
      go_loopw [0, 29] (fun v i wr => ∃ k W' t : Nat, k ≤ n ∧ t ≤ 64 ∧ W' < 18446744073709551616 ∧ i = .int .i64 k ∧ v = .int .u64 W' ∧ Hid (wdF t (fs.drop k) = some S) ∧ Hid (upL W' (fs.drop k) = (upL W fs).drop k) ∧ Hid ((upL W fs).all fitB = (upL W' (fs.drop k)).all fitB) ∧ OutF wr g n k (upL W fs) ∧ Below w.heap.size w wr) (fun _ i _ => n - (intOf i).toNat)
      case atStart => exact ⟨0, W, 0, Nat.zero_le _, Nat.zero_le _, hW, rfl, rfl, HS, rfl, rfl, hO0, hb1⟩
      case round =>
        clear hb hb1 hO0 hWd HS
        obtain ⟨k, W', t, hk, ht, hW', rfl, rfl, HS, HU, HA, hO, hb⟩ := hrel
        by_cases h : k < n
        · obtain ⟨b, o, rfl, hc⟩ := hr.cells (by omega)
          obtain ⟨h1, h2, h3⟩ := hc k h
          have hlt := World.block_lt_of_cell? _ _ h1
          have g1 : wr.cell? ⟨b, o + k * 3, none⟩ = some (.int .i64 (fs.getD k .z0).b) := by rw [hb.cell (p := ⟨b, o + k * 3, none⟩) hlt]; exact h1
          have g2 : wr.cell? ⟨b, o + k * 3 + 1, none⟩ = some (.int .i64 (fs.getD k .z0).v) := by rw [hb.cell (p := ⟨b, o + k * 3 + 1, none⟩) hlt]; exact h2
          have g3 : wr.cell? ⟨b, o + k * 3 + 2, none⟩ = some (.bool (fs.getD k .z0).s) := by rw [hb.cell (p := ⟨b, o + k * 3 + 2, none⟩) hlt]; exact h3
          have hd := drop_fld (fs := fs) (k := k) (by omega)
          have hU2 := HU.out
          have hA2 := HA.out
          have hS2 := HS.out
          have hLk := drop_fld (fs := upL W fs) (k := k) (by rw [upL_len]; omega)
          rw [hd] at hU2 hA2 hS2
          rw [hLk] at hU2
          clear HU HA HS hd h1 h2 h3 hlt hc hr hok hLk
          generalize fs.getD k .z0 = f at *
          obtain ⟨fb, fv, fsg⟩ := f
          unfold wdF at hS2
          by_cases hw1 : fb < 1 ∨ (64 : Int) - (t : Int) < fb
          · rw [if_pos hw1] at hS2; cases hS2
          · rw [if_neg hw1] at hS2
            dsimp only at g1 g2 g3 hS2
            obtain ⟨B, rfl⟩ := Int.eq_ofNat_of_zero_le (show 0 ≤ fb by omega)
            rw [Int.toNat_natCast] at hS2
            rw [upL_cons] at hU2 hA2
            obtain ⟨hgk, hU4⟩ := List.cons.inj hU2
            have HU : Hid (upL (W' / 2 ^ B) (fs.drop (k + 1)) = (upL W fs).drop (k + 1)) := hU4
            have HS : Hid (wdF (t + B) (fs.drop (k + 1)) = some S) := hS2
            rw [List.all_cons] at hA2
            have hbd := valF_bd W' ⟨(B : Int), fv, fsg⟩ (show (1 : Int) ≤ (B : Int) by omega) (show (B : Int) ≤ 64 by omega)
            have hH := fun V => holds_any ⟨B, valF W' ⟨(B : Int), fv, fsg⟩, fsg⟩ V (show (1 : Int) ≤ (B : Int) by omega) (show (B : Int) ≤ 64 by omega) hbd
            have hO1 := fun V => ones_any B V (by omega)
            have hSg := fun V => signed_any W' B V (by omega) (by omega)
            have hpb := pow_le64 (t := B) (by omega)
            have e1 : bits .and .u64 (W' : Int) ((2 ^ B - 1 : Nat) : Int) = ((W' % 2 ^ B : Nat) : Int) := by
              rw [u64_and_nat _ _ hW' (by omega), Nat.and_two_pow_sub_one_eq_mod]
            have hW2 : W' / 2 ^ B < 18446744073709551616 := Nat.lt_of_le_of_lt (Nat.div_le_self _ _) hW'
            have e2 : (W' : Int) / 2 ^ B = ((W' / 2 ^ B : Nat) : Int) := by
              rw [show (2 : Int) ^ B = ((2 ^ B : Nat) : Int) by rw [Int.natCast_pow]; rfl, ← Int.natCast_ediv]
            clear hU2 hU4 hS2
            have hB1 : 1 ≤ B := by omega
            have hB2 : t + B ≤ 64 := by omega
            clear hw1 hpb
            cases fsg with
            | false =>
              have hv1 := (valF_un W' B fv).symm
              generalize valF W' ⟨(B : Int), fv, false⟩ = vv at *
              clear hSg
              generalize W' % 2 ^ B = m at *
              generalize W' / 2 ^ B = W2 at *
              generalize 2 ^ B - 1 = os at *
              go_wp2_with fail
              refine (hO1 _).mono ?_
              rintro e w2 ⟨rfl, rfl⟩
              go_wp2_with fail
              have hba := (Below.refl wr.heap.size wr).alloc (Nat.le_refl _) (.cells #[.int .i64 (B : Int), .int .i64 vv, .bool false] 26)
              cases hf : fitB ⟨(B : Int), vv, false⟩ with
              | false =>
                have HN : Hid (unpackF W fs = none) := by
                  unfold Hid; rw [HP.out, hA2, hf]; rfl
                rw [hf] at hH
                clear hA2 hf hgk HU HS
                refine (hH _).mono ?_
                rintro e w2 ⟨rfl, hb2⟩
                have hbb := hb.trans ((hba.trans (hb2.mono (by simp))).mono hb.size)
                go_wp2_with fail
                go_ret2
                exact ⟨by rw [HN.out]; rfl, hbb⟩
              | true =>
                have HA : Hid ((upL W fs).all fitB = (upL W2 (fs.drop (k + 1))).all fitB) := by
                  unfold Hid; rw [hA2, hf]; rfl
                rw [hf] at hH
                clear hA2 hf
                refine (hH _).mono ?_
                rintro e w2 ⟨rfl, hb2⟩
                have hb3 := hba.trans (hb2.mono (by simp))
                have hbb := hb.trans (hb3.mono hb.size)
                have d0 : w2.cell? ⟨wr.heap.size, 0, none⟩ = some (.int .i64 B) := by rw [hb2.cell (p := ⟨wr.heap.size, 0, none⟩) (by simp)]; simp
                have d1 : w2.cell? ⟨wr.heap.size, 1, none⟩ = some (.int .i64 vv) := by rw [hb2.cell (p := ⟨wr.heap.size, 1, none⟩) (by simp)]; simp
                have d2 : w2.cell? ⟨wr.heap.size, 2, none⟩ = some (.bool false) := by rw [hb2.cell (p := ⟨wr.heap.size, 2, none⟩) (by simp)]; simp
                have hO2 := hO.below hb3 hO.lt
                have hth : w2.there g (k * 3) 3 := fun j hj => by have := hO2.there (k * 3 + j) (by omega); rw [Nat.zero_add] at this; exact this
                have hO3 := hO2.put h
                rw [← hgk] at hO3
                dsimp only at hO3
                have d3 := World.cell?_setCells_out g [.int .i64 (B : Int), .int .i64 vv, .bool false] (k * 3) w2 ⟨wr.heap.size, 0, none⟩ (fun hh _ => absurd hh (Nat.ne_of_gt hO.lt))
                rw [d0] at d3
                have hb4 := below_setC hg [.int .i64 (B : Int), .int .i64 vv, .bool false] (k * 3) w2 hbb
                clear hba hb2 hb3 hH hO1 hgk g1 g2 g3 hO hO2
                go_wp2_with (refine wpList_store_mid rfl 26 (.tmp 54) (.tmp 53) rfl g (k * 3) #[.int .i64 (B : Int), .int .i64 vv, .bool false] rfl rfl hth sizeF (oneF _ _ _) ?_)
                go_roundw
                case rel => exact ⟨k + 1, W2, t + B, by omega, hB2, hW2, by go_num, by go_num, HS, HU, HA, hO3, hb4⟩
                case measure => simp [intOf]; omega
            | true =>
              rw [valF_sg W' B fv] at *
              generalize sgn W' B = vv at *
              generalize W' % 2 ^ B = m at *
              generalize W' / 2 ^ B = W2 at *
              generalize 2 ^ B - 1 = os at *
              go_wp2_with fail
              refine (hO1 _).mono ?_
              rintro e w2 ⟨rfl, rfl⟩
              go_wp2_with fail
              refine (hSg _).mono ?_
              rintro e w2 ⟨rfl, rfl⟩
              go_wp2_with fail
              clear hSg
              have hba := (Below.refl wr.heap.size wr).alloc (Nat.le_refl _) (.cells #[.int .i64 (B : Int), .int .i64 vv, .bool true] 26)
              cases hf : fitB ⟨(B : Int), vv, true⟩ with
              | false =>
                have HN : Hid (unpackF W fs = none) := by
                  unfold Hid; rw [HP.out, hA2, hf]; rfl
                rw [hf] at hH
                clear hA2 hf hgk HU HS
                refine (hH _).mono ?_
                rintro e w2 ⟨rfl, hb2⟩
                have hbb := hb.trans ((hba.trans (hb2.mono (by simp))).mono hb.size)
                go_wp2_with fail
                go_ret2
                exact ⟨by rw [HN.out]; rfl, hbb⟩
              | true =>
                have HA : Hid ((upL W fs).all fitB = (upL W2 (fs.drop (k + 1))).all fitB) := by
                  unfold Hid; rw [hA2, hf]; rfl
                rw [hf] at hH
                clear hA2 hf
                refine (hH _).mono ?_
                rintro e w2 ⟨rfl, hb2⟩
                have hb3 := hba.trans (hb2.mono (by simp))
                have hbb := hb.trans (hb3.mono hb.size)
                have d0 : w2.cell? ⟨wr.heap.size, 0, none⟩ = some (.int .i64 B) := by rw [hb2.cell (p := ⟨wr.heap.size, 0, none⟩) (by simp)]; simp
                have d1 : w2.cell? ⟨wr.heap.size, 1, none⟩ = some (.int .i64 vv) := by rw [hb2.cell (p := ⟨wr.heap.size, 1, none⟩) (by simp)]; simp
                have d2 : w2.cell? ⟨wr.heap.size, 2, none⟩ = some (.bool true) := by rw [hb2.cell (p := ⟨wr.heap.size, 2, none⟩) (by simp)]; simp
                have hO2 := hO.below hb3 hO.lt
                have hth : w2.there g (k * 3) 3 := fun j hj => by have := hO2.there (k * 3 + j) (by omega); rw [Nat.zero_add] at this; exact this
                have hO3 := hO2.put h
                rw [← hgk] at hO3
                dsimp only at hO3
                have d3 := World.cell?_setCells_out g [.int .i64 (B : Int), .int .i64 vv, .bool true] (k * 3) w2 ⟨wr.heap.size, 0, none⟩ (fun hh _ => absurd hh (Nat.ne_of_gt hO.lt))
                rw [d0] at d3
                have hb4 := below_setC hg [.int .i64 (B : Int), .int .i64 vv, .bool true] (k * 3) w2 hbb
                clear hba hb2 hb3 hH hO1 hgk g1 g2 g3 hO hO2
                go_wp2_with (refine wpList_store_mid rfl 26 (.tmp 54) (.tmp 53) rfl g (k * 3) #[.int .i64 (B : Int), .int .i64 vv, .bool true] rfl rfl hth sizeF (oneF _ _ _) ?_)
                go_roundw
                case rel => exact ⟨k + 1, W2, t + B, by omega, hB2, hW2, by go_num, by go_num, HS, HU, HA, hO3, hb4⟩
                case measure => simp [intOf]; omega
        · obtain rfl : k = n := by omega
          have hd : fs.drop k = [] := List.drop_of_length_le (by omega)
          have HN : Hid (unpackF W fs = some (upL W fs)) := by
            unfold Hid; rw [HP.out, HA.out, hd]; rfl
          have hrd := hO.rd (by rw [upL_len]; omega)
          clear HU HA HS hd hr hl
          go_wp2_with fail
          go_ret2
          exact ⟨by rw [HN.out]; exact ⟨_, _, rfl, hrd⟩, hb⟩
    · have HN : Hid (unpackF W fs = none) := by
        unfold Hid unpackF; rw [hwd]
        show (if (decide (W / 2 ^ S = 0) && (upL W fs).all fitB) = true then some (upL W fs) else none) = _
        rw [decide_eq_false h0, Bool.false_and]
        rfl
      have hz : ((W : Int) / 2 ^ S != 0) = true := by
        rw [show (2 : Int) ^ S = ((2 ^ S : Nat) : Int) by rw [Int.natCast_pow]; rfl, ← Int.natCast_ediv]
        generalize W / 2 ^ S = q at *
        simp
        exact h0
      clear hwd
      go_enter Tryd.func11, Tryd.ntmps11
      go_wp2_with fail
      refine hWd.mono ?_
      rintro e w1 ⟨rfl, hb⟩
      unfold wdV
      go_wp2_with fail
      go_ret2
      exact ⟨by rw [HN.out]; rfl, hb⟩

end Go.Proofs.YtddekakihandeaaDoor.M
