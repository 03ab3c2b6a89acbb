/-
  Own text: a disk in plain words; its memory; contracts of a file's put, clear, sync.
-/
import Derived.Test.YtpjhadaiodnnaaaEApp
namespace Go.Proofs.Ytpjhadaiodnnaaa.M
open Go.ChangeShapes Go.WideShapes Go.ChangeAt Go.RowKit

/-- A file: what is told, what lasts, whether it was cleared since. -/
structure PF where
  told : List Int
  lasts : List Int
  cl : Bool

/-- A disk. -/
structure PD where
  room : Nat
  down : Bool
  f : Nat → PF
  left : Nat
  keep : List Int

def upP (f : Nat → PF) (i : Nat) (x : PF) : Nat → PF := fun k => if k = i then x else f k
theorem upP_same (f : Nat → PF) (i : Nat) (x : PF) : upP f i x i = x := if_pos rfl
theorem upP_other (f : Nat → PF) {i k : Nat} (x : PF) (h : k ≠ i) : upP f i x k = f k := if_neg h

/-- The owner's mark of file i of disk a. -/
def mark (a i : Nat) : Nat := 8 * a + i + 1

/-- A disk's cells d in block g, and its memory, are what m says. -/
structure DA (w : World) (B : Nat) (own : Nat → Nat) (a g : Nat) (d : Dk) (m : PD) : Prop where
  dc : DC w g d
  room : d.room = m.room
  down : d.down = m.down
  left : d.left = m.left
  cl : ∀ i, i < 8 → (d.fl i).cl = (m.f i).cl
  fm : ∀ i, i < 8 → FM w B own (mark a i) (d.fl i) (m.f i).told (m.f i).lasts
  keep : Rd .i64 w d.kp d.kn d.kc m.keep
  og : own g = 0
  ok : ∀ x, d.kp = some x → own x.block = 0 ∧ x.block ≠ g ∧ x.block < w.heap.size
  bg : B ≤ g
  fr : ∀ k, w.heap.size ≤ k → own k = 0

/-- Carried over a change elsewhere. -/
theorem DA.ch {S : Nat → Prop} {w w' : World} {B : Nat} {own own' : Nat → Nat} {a g : Nat} {d : Dk} {m : PD} (h : DA w B own a g d m) (hc : Ch S w w') (hg : ¬ S g) (hs : ∀ i k, i < 8 → own k = mark a i → ¬ S k) (hk : ∀ x, d.kp = some x → ¬ S x.block)
    (ho : ∀ k, k < w.heap.size → own' k = own k) (hf : ∀ k, w'.heap.size ≤ k → own' k = 0) : DA w' B own' a g d m :=
  ⟨h.dc.ch hc hg, h.room, h.down, h.left, h.cl, fun i hi => (h.fm i hi).ch hc (fun k => hs i k hi) ho, h.keep.ch hc hk, (ho g h.dc.lt).trans h.og, fun x e => ⟨(ho _ (h.ok x e).2.2).trans (h.ok x e).1, (h.ok x e).2.1, Nat.lt_of_lt_of_le (h.ok x e).2.2 hc.size⟩, h.bg, hf⟩

/-- A cell of its own block set. -/
theorem DA.set {w : World} {B : Nat} {own : Nat → Nat} {a g : Nat} {d' : Dk} {m' : PD} (j : Nat) (v : Value) (hd : DC (w.setCell ⟨g, j, none⟩ v) g d') (h1 : d'.room = m'.room) (h2 : d'.down = m'.down) (h3 : d'.left = m'.left) (h4 : ∀ i, i < 8 → (d'.fl i).cl = (m'.f i).cl)
    (h5 : ∀ i, i < 8 → FM w B own (mark a i) (d'.fl i) (m'.f i).told (m'.f i).lasts) (h6 : Rd .i64 w d'.kp d'.kn d'.kc m'.keep) (h7 : own g = 0) (h8 : ∀ x, d'.kp = some x → own x.block = 0 ∧ x.block ≠ g ∧ x.block < w.heap.size) (h9 : B ≤ g) (h10 : ∀ k, w.heap.size ≤ k → own k = 0) : DA (w.setCell ⟨g, j, none⟩ v) B own a g d' m' := by
  have hc := Ch.setCell w ⟨g, j, none⟩ v
  refine ⟨hd, h1, h2, h3, h4, fun i hi => (h5 i hi).ch hc (fun k hk e => ?_) (fun _ _ => rfl), h6.ch hc fun x e => (h8 x e).2.1, h7, fun x e => ⟨(h8 x e).1, (h8 x e).2.1, Nat.lt_of_lt_of_le (h8 x e).2.2 hc.size⟩, h9, fun k hk => h10 k (Nat.le_trans hc.size hk)⟩
  subst e
  rw [show own k = 0 from h7] at hk
  unfold mark at hk
  omega

theorem fl_tn {w : World} {B : Nat} {own : Nat → Nat} {a g : Nat} {d : Dk} {m : PD} (h : DA w B own a g d m) {i : Nat} (hi : i < 8) : (d.fl i).tn = (m.f i).told.length := (h.fm i hi).told.len.symm

theorem infoU8 : (Try.prog.info? 5).map (fun i => (i.zero, i.size, i.bytes)) = some (some (.int .u8 0), 1, 1) := by kernel_rfl

/-- What an append to file i leaves. -/
theorem DA.put {w w' : World} {B : Nat} {own : Nat → Nat} {a g : Nat} {d : Dk} {m : PD} (h : DA w B own a g d m) {i : Nat} (hi : i < 8) {ys : List Int} {p' : Option Addr} {n' c' : Nat}
    (hg : Grow w w' (d.fl i).tp (d.fl i).tc p' c') (hn : OwS .u8 5 w' B p' n' c' ((m.f i).told ++ ys)) :
    DA (w'.setCell ⟨g, 2 + i * 3, none⟩ (.slice p' n' c')) B (upO own p' (mark a i)) a g { d with fl := upF d.fl i { d.fl i with tp := p', tn := n', tc := c' } } { m with f := upP m.f i { m.f i with told := (m.f i).told ++ ys } }
    ∧ (∀ k, k < w.heap.size → upO own p' (mark a i) k = own k) ∧ Ch (fun k => k = g ∨ own k = mark a i) w (w'.setCell ⟨g, 2 + i * 3, none⟩ (.slice p' n' c')) := by
  obtain ⟨hfi, ho⟩ := (h.fm i hi).put hg hn
  have hc := hg.ch (fun k => own k = mark a i) fun x hx => (h.fm i hi).tg x hx
  have hg0 : ¬ own g = mark a i := by rw [h.og]; unfold mark; omega
  have hdc := h.dc.ch hc hg0
  have hfr : ∀ k, w'.heap.size ≤ k → upO own p' (mark a i) k = 0 := by
    intro k hk
    unfold upO
    rw [if_neg fun e => ?_]
    · exact h.fr k (Nat.le_trans hc.size hk)
    · cases p' with
      | none => cases e
      | some x =>
        injection e with e
        have := (hn.lt rfl).2
        omega
  refine ⟨?_, ho, (hc.mono fun k _ e => Or.inr e).trans ((Ch.setCell w' ⟨g, 2 + i * 3, none⟩ _).mono fun k _ e => Or.inl e)⟩
  refine DA.set (2 + i * 3) _ (hdc.setTold hi p' n' c') h.room h.down h.left (fun j hj => ?_) (fun j hj => ?_) (h.keep.ch hc fun x e => ?_) ((ho g h.dc.lt).trans h.og) (fun x e => ⟨(ho _ (h.ok x e).2.2).trans (h.ok x e).1, (h.ok x e).2.1, Nat.lt_of_lt_of_le (h.ok x e).2.2 hc.size⟩) h.bg hfr
  · show (upF d.fl i _ j).cl = (upP m.f i _ j).cl
    by_cases e : j = i
    · subst e
      rw [upF_same, upP_same]
      exact h.cl j hj
    · rw [upF_other _ _ e, upP_other _ _ e]
      exact h.cl j hj
  · show FM w' B _ (mark a j) (upF d.fl i _ j) (upP m.f i _ j).told (upP m.f i _ j).lasts
    by_cases e : j = i
    · subst e
      rw [upF_same, upP_same]
      exact hfi
    · rw [upF_other _ _ e, upP_other _ _ e]
      refine (h.fm j hj).ch hc (fun k hk hk2 => ?_) ho
      rw [hk] at hk2
      unfold mark at hk2
      omega
  · rw [(h.ok x e).1]
    unfold mark
    omega

set_option maxRecDepth 20000 in
theorem dput_any (w : World) (B : Nat) (own : Nat → Nat) (a g : Nat) (d : Dk) (m : PD) (h : DA w B own a g d m) (i : Nat) (hi : i < 8) (hB : B ≤ w.heap.size) (q : Option Addr) (l c : Nat) (ys : List Int) (hr : Rd .u8 w q l c ys) (hn : (m.f i).told.length + l ≤ 1099511627776) :
    Calls Try.prog 41 #[.pointer (some ⟨g, 2 + i * 3, none⟩), .slice q l c] w fun e w' => e = .returned (.tuple #[]) ∧ ∃ own' d', DA w' B own' a g d' { m with f := upP m.f i { m.f i with told := (m.f i).told ++ ys } } ∧ (∀ k, k < w.heap.size → own' k = own k) ∧ Ch (fun k => k = g ∨ own k = mark a i) w w' := by
  obtain ⟨i0, hi0, hz0, hz1, hz2⟩ := info_parts infoU8
  have hct := h.dc.told hi
  have htn := fl_tn h hi
  have hto := (h.fm i hi).told
  have HP := fun w' p' n' c' (hg : Grow w w' (d.fl i).tp (d.fl i).tc p' c') (hn : OwS .u8 5 w' B p' n' c' ((m.f i).told ++ ys)) => h.put hi hg hn
  have HC := fun w' p' c' (hg : Grow w w' (d.fl i).tp (d.fl i).tc p' c') => (h.dc.ch (hg.ch (fun k => own k = mark a i) fun x hx => (h.fm i hi).tg x hx) (by rw [h.og]; unfold mark; omega))
  rw [← htn] at hn
  generalize hfl : d.fl i = fl at *
  obtain ⟨tp, tn, tc, lp, ln, lc, cl⟩ := fl
  dsimp only at *
  clear htn
  go_enter Try.func41, Try.ntmps41
  go_wp2_with (refine wpList_app2 _ rfl (.tmp 8) (.tmp 9) 22 rfl .u8 5 i0 (.int .u8 0) 1 Try.underlying22 hi0 hz0 hz1 hz2 rfl B tp tn tc (m.f i).told rfl hto q l c ys rfl hr ?c1 ?c2 hB ?_)
  case c1 => omega
  case c2 => unfold maxLen; omega
  intro p' c' w' ho hg
  have hdc := HC w' p' c' hg
  have hct2 := hdc.told hi
  have hf2 := hdc.free (2 + i * 3)
  obtain ⟨h1, h2, h3⟩ := HP w' p' _ c' hg ho
  clear HP HC hdc hg ho hto hct hr h
  rw [hfl] at hct2
  dsimp only at hct2
  go_wp2_with fail
  go_end0
  exact ⟨rfl, _, _, h1, h2, h3⟩

/-- Its own block changed, all else as it was. -/
theorem DA.mend {w w' : World} {B : Nat} {own : Nat → Nat} {a g : Nat} {d' : Dk} {m' : PD} (hc : Ch (fun k => k = g) w w') (hd : DC w' g d') (h1 : d'.room = m'.room) (h2 : d'.down = m'.down) (h3 : d'.left = m'.left) (h4 : ∀ i, i < 8 → (d'.fl i).cl = (m'.f i).cl)
    (h5 : ∀ i, i < 8 → FM w B own (mark a i) (d'.fl i) (m'.f i).told (m'.f i).lasts) (h6 : Rd .i64 w d'.kp d'.kn d'.kc m'.keep) (h7 : own g = 0) (h8 : ∀ x, d'.kp = some x → own x.block = 0 ∧ x.block ≠ g ∧ x.block < w.heap.size) (h9 : B ≤ g) (h10 : ∀ k, w.heap.size ≤ k → own k = 0) : DA w' B own a g d' m' := by
  refine ⟨hd, h1, h2, h3, h4, fun i hi => (h5 i hi).ch hc (fun k hk e => ?_) (fun _ _ => rfl), h6.ch hc fun x e => (h8 x e).2.1, h7, fun x e => ⟨(h8 x e).1, (h8 x e).2.1, Nat.lt_of_lt_of_le (h8 x e).2.2 hc.size⟩, h9, fun k hk => h10 k (Nat.le_trans hc.size hk)⟩
  subst e
  rw [show own k = 0 from h7] at hk
  unfold mark at hk
  omega

theorem upF_up (fl : Nat → Fl) (i : Nat) (f f' : Fl) : upF (upF fl i f) i f' = upF fl i f' := by
  funext k
  unfold upF
  by_cases e : k = i
  · rw [if_pos e, if_pos e]
  · rw [if_neg e, if_neg e, if_neg e]

/-- One file's cells changed. -/
theorem DA.file {w w' : World} {B : Nat} {own : Nat → Nat} {a g : Nat} {d : Dk} {m : PD} (h : DA w B own a g d m) {i : Nat} (hi : i < 8) (f : Fl) (x : PF) (hc : Ch (fun k => k = g) w w') (hd : DC w' g { d with fl := upF d.fl i f }) (hcl : f.cl = x.cl) (hf : FM w B own (mark a i) f x.told x.lasts) :
    DA w' B own a g { d with fl := upF d.fl i f } { m with f := upP m.f i x } := by
  refine DA.mend hc hd h.room h.down h.left (fun j hj => ?_) (fun j hj => ?_) h.keep h.og h.ok h.bg h.fr
  · show (upF d.fl i f j).cl = (upP m.f i x j).cl
    by_cases e : j = i
    · rw [e, upF_same, upP_same]; exact hcl
    · rw [upF_other _ _ e, upP_other _ _ e]; exact h.cl j hj
  · show FM w B own (mark a j) (upF d.fl i f j) (upP m.f i x j).told (upP m.f i x j).lasts
    by_cases e : j = i
    · subst e; rw [upF_same, upP_same]; exact hf
    · rw [upF_other _ _ e, upP_other _ _ e]; exact h.fm j hj

theorem Ch.cells2 (w : World) (g i j : Nat) (u v : Value) : Ch (fun k => k = g) w ((w.setCell ⟨g, i, none⟩ u).setCell ⟨g, j, none⟩ v) := (Ch.setCell w ⟨g, i, none⟩ u).trans (Ch.setCell _ ⟨g, j, none⟩ v)

set_option maxRecDepth 20000 in
theorem clear_any (w : World) (B : Nat) (own : Nat → Nat) (a g : Nat) (d : Dk) (m : PD) (h : DA w B own a g d m) (i : Nat) (hi : i < 8) :
    Calls Try.prog 102 #[.pointer (some ⟨g, 2 + i * 3, none⟩)] w fun e w' => e = .returned (.tuple #[]) ∧ ∃ d', DA w' B own a g d' { m with f := upP m.f i ⟨[], (m.f i).lasts, true⟩ } ∧ Ch (fun k => k = g) w w' := by
  have hct := h.dc.told hi
  have hcc := h.dc.cl hi
  have hf0 := h.dc.free (2 + i * 3)
  have hf2 := h.dc.free (2 + i * 3 + 2)
  have hd := (h.dc.setTold hi none 0 0).setCl hi true
  dsimp only at hd
  rw [upF_same, upF_up] at hd
  dsimp only at hd
  have hfm := h.fm i hi
  have hfin := h.file hi _ ⟨[], (m.f i).lasts, true⟩ (Ch.cells2 w g (2 + i * 3) (2 + i * 3 + 2) (.slice none 0 0) (.bool true)) hd rfl ⟨OwS.nil _ _ _ _, hfm.lasts, (fun _ e => by cases e), hfm.lg, (fun e => by cases e), (fun _ _ _ e => by cases e)⟩
  have hcc2 : (w.setCell ⟨g, 2 + i * 3, none⟩ (.slice none 0 0)).cell? ⟨g, 2 + i * 3 + 2, none⟩ = some (.bool (d.fl i).cl) := by
    rw [World.cell?_setCell_other (h := fun e => absurd (congrArg Addr.off e) (by simp))]; exact hcc
  clear hd hfm h hcc
  generalize d.fl i = fl at *
  obtain ⟨tp, tn, tc, lp, ln, lc, cl⟩ := fl
  dsimp only at *
  go_enter Try.func102, Try.ntmps102
  go_wp2_with fail
  go_end0
  exact ⟨rfl, _, hfin, Ch.cells2 _ _ _ _ _ _⟩

set_option maxRecDepth 20000 in
theorem sync_any (w : World) (B : Nat) (own : Nat → Nat) (a g : Nat) (d : Dk) (m : PD) (h : DA w B own a g d m) (i : Nat) (hi : i < 8) :
    Calls Try.prog 81 #[.pointer (some ⟨g, 2 + i * 3, none⟩)] w fun e w' => e = .returned (.tuple #[]) ∧ ∃ d', DA w' B own a g d' { m with f := upP m.f i ⟨(m.f i).told, (m.f i).told, false⟩ } ∧ Ch (fun k => k = g) w w' := by
  have hct := h.dc.told hi
  have hcl := h.dc.lasts hi
  have hcc := h.dc.cl hi
  have hf0 := h.dc.free (2 + i * 3 + 1)
  have hf2 := h.dc.free (2 + i * 3 + 2)
  have hd := (h.dc.setLasts hi (d.fl i).tp (d.fl i).tn (d.fl i).tc).setCl hi false
  dsimp only at hd
  rw [upF_same, upF_up] at hd
  dsimp only at hd
  have hfm := h.fm i hi
  have hfin := h.file hi _ ⟨(m.f i).told, (m.f i).told, false⟩ (Ch.cells2 w g (2 + i * 3 + 1) (2 + i * 3 + 2) (.slice (d.fl i).tp (d.fl i).tn (d.fl i).tc) (.bool false)) hd rfl ⟨hfm.told, hfm.told, hfm.tg, hfm.tg, (fun _ => List.prefix_refl _), (fun e => by cases e)⟩
  have hcc2 : (w.setCell ⟨g, 2 + i * 3 + 1, none⟩ (.slice (d.fl i).tp (d.fl i).tn (d.fl i).tc)).cell? ⟨g, 2 + i * 3 + 2, none⟩ = some (.bool (d.fl i).cl) := by
    rw [World.cell?_setCell_other (h := fun e => absurd (congrArg Addr.off e) (by simp))]; exact hcc
  clear hd hfm h hcc
  generalize d.fl i = fl at *
  obtain ⟨tp, tn, tc, lp, ln, lc, cl⟩ := fl
  dsimp only at *
  go_enter Try.func81, Try.ntmps81
  go_wp2_with fail
  go_end0
  exact ⟨rfl, _, hfin, Ch.cells2 _ _ _ _ _ _⟩

end Go.Proofs.Ytpjhadaiodnnaaa.M
