/-
  Own text: what a tape does to its disk: Read in memory of the call's own, and the contract of write.
-/
import Derived.Test.YtpjhadaiodnnaaaTFits
import Derived.Test.YtpjhadaiodnnaaaEPub
namespace Go.Proofs.Ytpjhadaiodnnaaa.M
open Go.ChangeShapes Go.WideShapes Go.ChangeAt Go.RowKit

set_option maxRecDepth 20000 in
theorem Read_O (w : World) (B : Nat) (own : Nat → Nat) (a g : Nat) (d : Dk) (m : PD) (h : DA w B own a g d m) (hr : 0 < m.room) (hw : m.down = false) (hm : m.few) (i : Nat) (hi : i < 8) :
    Calls Try.prog 46 #[.pointer (some ⟨g, 0, none⟩), .int .i64 i] w fun e w' => ∃ p' c', e = .returned (.tuple #[.slice p' (m.f i).told.length c', .int .i64 0]) ∧ Ow .u8 5 w' w.heap.size p' (m.f i).told.length c' (m.f i).told ∧ Below w.heap.size w w' := by
  have hF := file_ok w g d h.dc (by rw [h.room]; exact hr) (h.down.trans hw) i hi
  have hct := h.dc.told hi
  have htn := fl_tn h hi
  have hC := bcloneO _ _ _ _ w (h.fm i hi).told.rd (by rw [htn]; have := hm.told i hi; omega)
  rw [htn] at hC hct
  clear h htn
  generalize (m.f i).told = xs at *
  generalize hln : xs.length = n at *
  clear hln
  generalize d.fl i = fl at *
  obtain ⟨tp, tn, tc, lp, ln, lc, cl⟩ := fl
  dsimp only at *
  go_enter Try.func46, Try.ntmps46
  go_wp2_with fail
  refine hF.mono ?_
  rintro e w1 ⟨rfl, rfl⟩
  go_wp2_with fail
  refine hC.mono ?_
  rintro e w2 ⟨p', c', rfl, h1, h2⟩
  go_wp2_with fail
  go_ret2
  exact ⟨p', c', rfl, h1, h2⟩

/-- Without a fuse. -/
theorem act0 {m : PD} (h : m.left = 0) (n : Nat) (X : Nat → Nat → PF) : m.act n X = { m with f := X n } := by unfold PD.act; rw [if_pos h]

theorem gone0 {m : PD} (h : m.left = 0) (n : Nat) : goneE (m.gone n) = 0 := by
  unfold PD.gone goneE
  rw [decide_eq_false (by omega)]
  rfl

theorem few_up {m : PD} (h : m.few) (i : Nat) (x : PF) (h1 : x.told.length ≤ 549755813888) (h2 : x.lasts.length ≤ 549755813888) : ({ m with f := upP m.f i x } : PD).few :=
  ⟨fun j hj => by
    show (upP m.f i x j).told.length ≤ _
    unfold upP
    split
    · exact h1
    · exact h.told j hj, fun j hj => by
    show (upP m.f i x j).lasts.length ≤ _
    unfold upP
    split
    · exact h2
    · exact h.lasts j hj, h.keep, h.left⟩

theorem upP_up (f : Nat → PF) (i : Nat) (x y : PF) : upP (upP f i x) i y = upP f i y := by
  funext k
  unfold upP
  split <;> rfl

theorem Ch.then {S T : Nat → Prop} {a b c : World} (h : Ch S a b) (k : Ch T b c) (hs : ∀ j, j < a.heap.size → T j → S j) : Ch S a c :=
  ⟨k.os.trans h.os, k.tape.trans h.tape, k.output.trans h.output, Nat.le_trans h.size k.size, fun j hj hn => (k.block j (Nat.lt_of_lt_of_le hj h.size) (fun e => hn (hs j hj e))).trans (h.block j hj hn)⟩

set_option maxRecDepth 20000 in
set_option maxHeartbeats 2000000 in
theorem write_ok (w : World) (B : Nat) (own : Nat → Nat) (a g : Nat) (d : Dk) (m : PD) (h : DA w B own a g d m) (hr : 0 < m.room) (hrm : m.room ≤ 4194304) (hw : m.down = false) (hm : m.few) (hleft : m.left = 0) (hB : B ≤ w.heap.size) (i : Nat) (hi : i < 8)
    (gt : Nat) (hT : w.cell? ⟨gt, 0, none⟩ = some (.pointer (some ⟨g, 0, none⟩))) (hgo : own gt ≠ mark a i) (hgg : gt ≠ g)
    (p : Option Addr) (n c : Nat) (bs : List Int) (hb : Rd .u8 w p n c bs) (hbo : ∀ x, p = some x → 0 < n → own x.block ≠ mark a i ∧ x.block ≠ g) (hl : n ≤ 549755813888) (hu : ({ m with f := upP m.f i ⟨[], (m.f i).lasts, true⟩ } : PD).used + n ≤ m.room) :
    Calls Try.prog 57 #[.pointer (some ⟨gt, 0, none⟩), .int .i64 i, .slice p n c] w fun e w' => e = .returned (.int .i64 0) ∧ ∃ own2 d2, DA w' B own2 a g d2 { m with f := upP m.f i ⟨bs, bs, false⟩ } ∧ (∀ k, k < w.heap.size → own2 k = own k) ∧ Ch (fun k => k = g ∨ own k = mark a i) w w' := by
  have hC := Clear_ok w B own a g d m h hr hw hm i hi
  rw [act0 hleft, gone0 hleft] at hC
  have hgl : gt < w.heap.size := World.block_lt_of_cell? _ _ hT
  have hnS : ∀ k, own k ≠ mark a i → k ≠ g → ¬ (k = g ∨ own k = mark a i) := fun k h1 h2 e => e.elim h2 h1
  go_enter Try.func57, Try.ntmps57
  go_wp2_with fail
  refine hC.mono ?_
  rintro e w1 ⟨rfl, own1, d1, h1, ho1, hc1⟩
  have hT1 : w1.cell? ⟨gt, 0, none⟩ = some (.pointer (some ⟨g, 0, none⟩)) := (hc1.cell hgl (hnS gt hgo hgg)).trans hT
  have hb1 : Rd .u8 w1 p n c bs := hb.ch0 hc1 fun x e h0 => hnS _ (hbo x e h0).1 (hbo x e h0).2
  have hA := Append_gen w1 B own1 a g d1 _ h1 hr hw (few_up hm i _ (Nat.zero_le _) (hm.lasts i hi)) (Nat.le_trans hB hc1.size) i hi p n c bs hb1 (fun x e h0 => (hbo x e h0).2) hl hu hrm
  rw [act0 (show ({ m with f := upP m.f i ⟨[], (m.f i).lasts, true⟩ } : PD).left = 0 from hleft), gone0 (show ({ m with f := upP m.f i ⟨[], (m.f i).lasts, true⟩ } : PD).left = 0 from hleft)] at hA
  clear hC
  go_wp2_with fail
  refine hA.mono ?_
  rintro e w2 ⟨rfl, own2, d2, h2, ho2, hc2⟩
  have hcc2 := hc1.then hc2 (fun j hj e => e.imp id (fun e => by rw [← ho1 j hj]; exact e))
  have ho2' : ∀ k, k < w.heap.size → own2 k = own k := fun k hk => (ho2 k (Nat.lt_of_lt_of_le hk hc1.size)).trans (ho1 k hk)
  have hT2 : w2.cell? ⟨gt, 0, none⟩ = some (.pointer (some ⟨g, 0, none⟩)) := (hcc2.cell hgl (hnS gt hgo hgg)).trans hT
  have hbl := hb.len
  have htk : bs.take n = bs := List.take_of_length_le (by omega)
  rw [upP_same, htk, upP_up] at h2
  dsimp only at h2
  rw [List.nil_append] at h2
  have hS := Sync_ok w2 B own2 a g d2 _ h2 hr hw (few_up hm i _ (by rw [hbl]; exact hl) (hm.lasts i hi)) i hi
  rw [act0 (show ({ m with f := upP m.f i ⟨bs, (m.f i).lasts, true⟩ } : PD).left = 0 from hleft), gone0 (show ({ m with f := upP m.f i ⟨bs, (m.f i).lasts, true⟩ } : PD).left = 0 from hleft)] at hS
  clear hA hc2 ho2
  go_wp2_with fail
  refine hS.mono ?_
  rintro e w3 ⟨rfl, own3, d3, h3, ho3, hc3⟩
  have hcc3 := hcc2.then hc3 (fun j hj e => e.imp id (fun e => by rw [← ho2' j hj]; exact e))
  rw [upP_same, upP_up] at h3
  dsimp only at h3
  clear hS
  go_wp2_with fail
  go_ret
  exact ⟨rfl, own3, d3, h3, fun k hk => (ho3 k (Nat.lt_of_lt_of_le hk hcc2.size)).trans (ho2' k hk), hcc3⟩

/-- Some mark that is no file's. -/
def farM : Nat := 1000

/-- A disk's marks, as another list of marks has them. -/
theorem DA.reown {w : World} {B : Nat} {own own' : Nat → Nat} {a g : Nat} {d : Dk} {m : PD} (h : DA w B own a g d m) (ho : ∀ k, own k = mark a 0 ∨ own k = mark a 1 ∨ own k = mark a 2 ∨ own k = mark a 3 ∨ own k = mark a 4 ∨ own k = mark a 5 ∨ own k = mark a 6 ∨ own k = mark a 7 → own' k = own k) (hg : own' g = 0) (hk : ∀ x, d.kp = some x → own' x.block = 0) (hf : ∀ k, w.heap.size ≤ k → own' k = 0) : DA w B own' a g d m := by
  have ho' : ∀ i k, i < 8 → own k = mark a i → own' k = mark a i := fun i k hi e => by
    rw [ho k ?_, e]
    match i, hi with
    | 0, _ => exact Or.inl e
    | 1, _ => exact Or.inr (Or.inl e)
    | 2, _ => exact Or.inr (Or.inr (Or.inl e))
    | 3, _ => exact Or.inr (Or.inr (Or.inr (Or.inl e)))
    | 4, _ => exact Or.inr (Or.inr (Or.inr (Or.inr (Or.inl e))))
    | 5, _ => exact Or.inr (Or.inr (Or.inr (Or.inr (Or.inr (Or.inl e)))))
    | 6, _ => exact Or.inr (Or.inr (Or.inr (Or.inr (Or.inr (Or.inr (Or.inl e))))))
    | 7, _ => exact Or.inr (Or.inr (Or.inr (Or.inr (Or.inr (Or.inr (Or.inr e))))))
    | k + 8, h => exact absurd h (by omega)
  exact ⟨h.dc, h.room, h.down, h.left, h.cl, fun i hi => ⟨(h.fm i hi).told, (h.fm i hi).lasts, fun x e => ho' i _ hi ((h.fm i hi).tg x e), fun x e => ho' i _ hi ((h.fm i hi).lg x e), (h.fm i hi).begins, (h.fm i hi).apart⟩, h.keep, hg, fun x e => ⟨hk x e, (h.ok x e).2.1, (h.ok x e).2.2⟩, h.bg, hf⟩

/-- All blocks from lo to hi are marked as another's. -/
def farO (own : Nat → Nat) (lo hi : Nat) : Nat → Nat := fun k => if lo ≤ k ∧ k < hi then farM else own k

theorem farO_low {own : Nat → Nat} {lo hi k : Nat} (h : k < lo) : farO own lo hi k = own k := if_neg (by omega)
theorem farO_in {own : Nat → Nat} {lo hi k : Nat} (h : lo ≤ k) (h2 : k < hi) : farO own lo hi k = farM := if_pos ⟨h, h2⟩

theorem far_mark {a i : Nat} (ha : a ≤ 100) (hi : i < 8) : farM ≠ mark a i := by unfold farM mark; omega

/-- What was made since is marked as another's. -/
theorem DA.marked {w w' : World} {B : Nat} {own : Nat → Nat} {a g : Nat} {d : Dk} {m : PD} (h : DA w B own a g d m) (hb : Below w.heap.size w w') : DA w' B (farO own w.heap.size w'.heap.size) a g d m := by
  have hgl : g < w.heap.size := h.dc.lt
  refine (h.below hb).reown (fun k e => ?_) ?_ (fun x e => ?_) (fun k hk => ?_)
  · unfold farO
    rw [if_neg]
    intro hk
    have h0 := h.fr k hk.1
    rw [h0] at e
    unfold mark at e
    omega
  · rw [farO_low hgl]; exact h.og
  · rw [farO_low (h.ok x e).2.2]; exact (h.ok x e).1
  · unfold farO
    rw [if_neg (by omega)]
    exact h.fr k (Nat.le_trans hb.size hk)

/-- A block of another's is written. -/
theorem DA.exF {w w' : World} {B : Nat} {own : Nat → Nat} {a g gt : Nat} {d : Dk} {m : PD} (ha : a ≤ 100) (h : DA w B own a g d m) (he : Ex gt w w') (hf : own gt = farM) (hg : gt ≠ g) : DA w' B own a g d m :=
  h.ch (S := fun k => k = gt) ⟨he.os, he.tape, he.output, he.size, fun k hk hn => he.block k hk hn⟩ (fun e => hg e.symm) (fun i k hi e e2 => far_mark ha hi (by rw [← hf, ← e2, e])) (fun x e e2 => by have h1 := (h.ok x e).1; have e3 : x.block = gt := e2; rw [e3, hf] at h1; cases h1) (fun _ _ => rfl) (fun k hk => h.fr k (Nat.le_trans he.size hk))

end Go.Proofs.Ytpjhadaiodnnaaa.M
