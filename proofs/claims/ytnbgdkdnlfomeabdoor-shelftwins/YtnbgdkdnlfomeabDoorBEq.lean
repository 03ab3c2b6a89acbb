/-
  Own text: whether cells, records, requests, what clients got are the same.
-/
import Derived.Test.YtnbgdkdnlfomeabDoorBDat
import Derived.Laws.StructEq
import Derived.ChangeKeysEq
namespace Go.Proofs.YtnbgdkdnlfomeabDoor.M
open Go.ChangeShapes Go.WideShapes Go.ChangeAt Go.RowKit
set_option linter.unusedSimpArgs false

def eqCe (c d : Ce) : Bool := eqBt c.k d.k && (c.v == d.v && c.s.toList == d.s.toList)
def eqDn (c d : Dn) : Bool := c.c == d.c && (c.q == d.q && c.v == d.v)
def eqRc (c d : Rc) : Bool := c.ix == d.ix && (c.ep == d.ep && (eqBt c.k d.k && (c.v == d.v && (c.s.toList == d.s.toList && (c.c == d.c && c.q == d.q)))))

theorem eqi_req (c q c2 q2 : Int) (n : Nat) (w : World) : (Op.equalIn (n + 1 + 1 + 1 + 1) 39 (.agg #[.int .i64 c, .int .i64 q]) (.agg #[.int .i64 c2, .int .i64 q2])).run Tryd.prog w = .ok (c == c2 && q == q2) w := by
  have ht : Tryd.prog.underlying 39 = some (.struct (Tryd.prog.fieldsOf 39)) := by unfold Program.fieldsOf; rw [Tryd.underlying39]
  have hp : Tryd.prog.stoodInHeld 39 = false := by kernel_rfl
  have hu := Tryd.underlying3
  have ha2 := Tryd.isAgg3
  rw [run_equalIn_struct w (n + 1 + 1 + 1) _ _ _ ht hp]
  unfold Program.fieldsOf
  rw [Tryd.underlying39]
  simp only [Op.eqFields, part, Sem.run_bind, ha2, Sem.run_ite, Result.andThen_ok, Sem.run_pure, if_true]
  simp [run_equalIn_int w (n + 1 + 1) _ .i64 .i64 _ _ hu]
  repeat (split <;> simp_all)

theorem eql_req (c q c2 q2 : Int) (w : World) : (binOp .eql 39 (.agg #[.int .i64 c, .int .i64 q]) (.agg #[.int .i64 c2, .int .i64 q2])).run Tryd.prog w = .ok (.bool (c == c2 && q == q2)) w := by
  rw [run_eql_struct, show (10000 : Nat) = 9996 + 1 + 1 + 1 + 1 from rfl, eqi_req]
  rfl

theorem neq_req (c q c2 q2 : Int) (w : World) : (binOp .neq 39 (.agg #[.int .i64 c, .int .i64 q]) (.agg #[.int .i64 c2, .int .i64 q2])).run Tryd.prog w = .ok (.bool (!(c == c2 && q == q2))) w := by
  have h := eqi_req c q c2 q2 9996 w
  simp only [binOp]
  simp [show Op.equal 39 (.agg #[.int .i64 c, .int .i64 q]) (.agg #[.int .i64 c2, .int .i64 q2]) = Op.equalIn (9996 + 1 + 1 + 1 + 1) 39 (.agg #[.int .i64 c, .int .i64 q]) (.agg #[.int .i64 c2, .int .i64 q2]) from rfl, h]

theorem eqi_don (c d : Dn) (n : Nat) (w : World) : (Op.equalIn (n + 1 + 1 + 1 + 1) 56 (.agg #[.int .i64 c.c, .int .i64 c.q, .int .i64 c.v]) (.agg #[.int .i64 d.c, .int .i64 d.q, .int .i64 d.v])).run Tryd.prog w = .ok (eqDn c d) w := by
  have ht : Tryd.prog.underlying 56 = some (.struct (Tryd.prog.fieldsOf 56)) := by unfold Program.fieldsOf; rw [Tryd.underlying56]
  have hp : Tryd.prog.stoodInHeld 56 = false := by kernel_rfl
  have hu := Tryd.underlying3
  have ha2 := Tryd.isAgg3
  rw [run_equalIn_struct w (n + 1 + 1 + 1) _ _ _ ht hp]
  unfold Program.fieldsOf
  rw [Tryd.underlying56]
  unfold eqDn
  simp only [Op.eqFields, part, Sem.run_bind, ha2, Sem.run_ite, Result.andThen_ok, Sem.run_pure, if_true]
  simp [run_equalIn_int w (n + 1 + 1) _ .i64 .i64 _ _ hu]
  repeat (split <;> simp_all)

theorem eql_don (c d : Dn) (w : World) : (binOp .eql 56 (.agg #[.int .i64 c.c, .int .i64 c.q, .int .i64 c.v]) (.agg #[.int .i64 d.c, .int .i64 d.q, .int .i64 d.v])).run Tryd.prog w = .ok (.bool (eqDn c d)) w := by
  rw [run_eql_struct, show (10000 : Nat) = 9996 + 1 + 1 + 1 + 1 from rfl, eqi_don]
  rfl

theorem neq_don (c d : Dn) (w : World) : (binOp .neq 56 (.agg #[.int .i64 c.c, .int .i64 c.q, .int .i64 c.v]) (.agg #[.int .i64 d.c, .int .i64 d.q, .int .i64 d.v])).run Tryd.prog w = .ok (.bool (!(eqDn c d))) w := by
  have h := eqi_don c d 9996 w
  simp only [binOp]
  simp [show Op.equal 56 (.agg #[.int .i64 c.c, .int .i64 c.q, .int .i64 c.v]) (.agg #[.int .i64 d.c, .int .i64 d.q, .int .i64 d.v]) = Op.equalIn (9996 + 1 + 1 + 1 + 1) 56 (.agg #[.int .i64 c.c, .int .i64 c.q, .int .i64 c.v]) (.agg #[.int .i64 d.c, .int .i64 d.q, .int .i64 d.v]) from rfl, h]

theorem eqi_cel (c d : Ce) (n : Nat) (w : World) : (Op.equalIn (n + 1 + 1 + 1 + 1) 71 (.agg #[.int .u8 (bt c.k 0), .int .u8 (bt c.k 1), .int .u8 (bt c.k 2), .int .u8 (bt c.k 3), .int .u8 (bt c.k 4), .int .u8 (bt c.k 5), .int .u8 (bt c.k 6), .int .u8 (bt c.k 7), .int .i64 c.v, .string c.s]) (.agg #[.int .u8 (bt d.k 0), .int .u8 (bt d.k 1), .int .u8 (bt d.k 2), .int .u8 (bt d.k 3), .int .u8 (bt d.k 4), .int .u8 (bt d.k 5), .int .u8 (bt d.k 6), .int .u8 (bt d.k 7), .int .i64 d.v, .string d.s])).run Tryd.prog w = .ok (eqCe c d) w := by
  have ht : Tryd.prog.underlying 71 = some (.struct (Tryd.prog.fieldsOf 71)) := by unfold Program.fieldsOf; rw [Tryd.underlying71]
  have hp : Tryd.prog.stoodInHeld 71 = false := by kernel_rfl
  have hu := Tryd.underlying3
  have ha2 := Tryd.isAgg3
  have ha := Tryd.isAgg37
  have hz := Tryd.sizeOf37
  have e0 : (#[.int .u8 (bt c.k 0), .int .u8 (bt c.k 1), .int .u8 (bt c.k 2), .int .u8 (bt c.k 3), .int .u8 (bt c.k 4), .int .u8 (bt c.k 5), .int .u8 (bt c.k 6), .int .u8 (bt c.k 7), .int .i64 c.v, .string c.s] : Array Value).extract 0 (0 + 8) = #[.int .u8 (bt (c.k) 0), .int .u8 (bt (c.k) 1), .int .u8 (bt (c.k) 2), .int .u8 (bt (c.k) 3), .int .u8 (bt (c.k) 4), .int .u8 (bt (c.k) 5), .int .u8 (bt (c.k) 6), .int .u8 (bt (c.k) 7)] := rfl
  have e1 : (#[.int .u8 (bt d.k 0), .int .u8 (bt d.k 1), .int .u8 (bt d.k 2), .int .u8 (bt d.k 3), .int .u8 (bt d.k 4), .int .u8 (bt d.k 5), .int .u8 (bt d.k 6), .int .u8 (bt d.k 7), .int .i64 d.v, .string d.s] : Array Value).extract 0 (0 + 8) = #[.int .u8 (bt (d.k) 0), .int .u8 (bt (d.k) 1), .int .u8 (bt (d.k) 2), .int .u8 (bt (d.k) 3), .int .u8 (bt (d.k) 4), .int .u8 (bt (d.k) 5), .int .u8 (bt (d.k) 6), .int .u8 (bt (d.k) 7)] := rfl
  have hs := Tryd.underlying9
  have ha3 := Tryd.isAgg9
  rw [run_equalIn_struct w (n + 1 + 1 + 1) _ _ _ ht hp]
  unfold Program.fieldsOf
  rw [Tryd.underlying71]
  unfold eqCe
  have hk := eql_key c.k d.k (n + 1)
  generalize eqBt c.k d.k = z at *
  simp only [Op.eqFields, part, Sem.run_bind, ha, hz, ha2, ha3, Sem.run_ite, Result.andThen_ok, Sem.run_pure, if_true, Nat.zero_add, e0, e1, hk]
  simp [run_equalIn_int w (n + 1 + 1) _ .i64 .i64 _ _ hu, run_equalIn_string w (n + 1 + 1) _ _ _ hs]
  repeat (split <;> simp_all)

theorem eql_cel (c d : Ce) (w : World) : (binOp .eql 71 (.agg #[.int .u8 (bt c.k 0), .int .u8 (bt c.k 1), .int .u8 (bt c.k 2), .int .u8 (bt c.k 3), .int .u8 (bt c.k 4), .int .u8 (bt c.k 5), .int .u8 (bt c.k 6), .int .u8 (bt c.k 7), .int .i64 c.v, .string c.s]) (.agg #[.int .u8 (bt d.k 0), .int .u8 (bt d.k 1), .int .u8 (bt d.k 2), .int .u8 (bt d.k 3), .int .u8 (bt d.k 4), .int .u8 (bt d.k 5), .int .u8 (bt d.k 6), .int .u8 (bt d.k 7), .int .i64 d.v, .string d.s])).run Tryd.prog w = .ok (.bool (eqCe c d)) w := by
  rw [run_eql_struct, show (10000 : Nat) = 9996 + 1 + 1 + 1 + 1 from rfl, eqi_cel]
  rfl

theorem neq_cel (c d : Ce) (w : World) : (binOp .neq 71 (.agg #[.int .u8 (bt c.k 0), .int .u8 (bt c.k 1), .int .u8 (bt c.k 2), .int .u8 (bt c.k 3), .int .u8 (bt c.k 4), .int .u8 (bt c.k 5), .int .u8 (bt c.k 6), .int .u8 (bt c.k 7), .int .i64 c.v, .string c.s]) (.agg #[.int .u8 (bt d.k 0), .int .u8 (bt d.k 1), .int .u8 (bt d.k 2), .int .u8 (bt d.k 3), .int .u8 (bt d.k 4), .int .u8 (bt d.k 5), .int .u8 (bt d.k 6), .int .u8 (bt d.k 7), .int .i64 d.v, .string d.s])).run Tryd.prog w = .ok (.bool (!(eqCe c d))) w := by
  have h := eqi_cel c d 9996 w
  simp only [binOp]
  simp [show Op.equal 71 (.agg #[.int .u8 (bt c.k 0), .int .u8 (bt c.k 1), .int .u8 (bt c.k 2), .int .u8 (bt c.k 3), .int .u8 (bt c.k 4), .int .u8 (bt c.k 5), .int .u8 (bt c.k 6), .int .u8 (bt c.k 7), .int .i64 c.v, .string c.s]) (.agg #[.int .u8 (bt d.k 0), .int .u8 (bt d.k 1), .int .u8 (bt d.k 2), .int .u8 (bt d.k 3), .int .u8 (bt d.k 4), .int .u8 (bt d.k 5), .int .u8 (bt d.k 6), .int .u8 (bt d.k 7), .int .i64 d.v, .string d.s]) = Op.equalIn (9996 + 1 + 1 + 1 + 1) 71 (.agg #[.int .u8 (bt c.k 0), .int .u8 (bt c.k 1), .int .u8 (bt c.k 2), .int .u8 (bt c.k 3), .int .u8 (bt c.k 4), .int .u8 (bt c.k 5), .int .u8 (bt c.k 6), .int .u8 (bt c.k 7), .int .i64 c.v, .string c.s]) (.agg #[.int .u8 (bt d.k 0), .int .u8 (bt d.k 1), .int .u8 (bt d.k 2), .int .u8 (bt d.k 3), .int .u8 (bt d.k 4), .int .u8 (bt d.k 5), .int .u8 (bt d.k 6), .int .u8 (bt d.k 7), .int .i64 d.v, .string d.s]) from rfl, h]

theorem eqi_req3 (c q c2 q2 : Int) (n : Nat) (w : World) : (Op.equalIn (n + 1 + 1 + 1) 39 (.agg #[.int .i64 c, .int .i64 q]) (.agg #[.int .i64 c2, .int .i64 q2])).run Tryd.prog w = .ok (c == c2 && q == q2) w := by
  have ht : Tryd.prog.underlying 39 = some (.struct (Tryd.prog.fieldsOf 39)) := by unfold Program.fieldsOf; rw [Tryd.underlying39]
  have hp : Tryd.prog.stoodInHeld 39 = false := by kernel_rfl
  have hu := Tryd.underlying3
  have ha2 := Tryd.isAgg3
  rw [run_equalIn_struct w (n + 1 + 1) _ _ _ ht hp]
  unfold Program.fieldsOf
  rw [Tryd.underlying39]
  simp only [Op.eqFields, part, Sem.run_bind, ha2, Sem.run_ite, Result.andThen_ok, Sem.run_pure, if_true]
  simp [run_equalIn_int w (n + 1) _ .i64 .i64 _ _ hu]
  repeat (split <;> simp_all)

theorem eqi_rec (c d : Rc) (n : Nat) (w : World) : (Op.equalIn (n + 1 + 1 + 1 + 1) 41 (.agg #[.int .i64 c.ix, .int .i64 c.ep, .int .u8 (bt c.k 0), .int .u8 (bt c.k 1), .int .u8 (bt c.k 2), .int .u8 (bt c.k 3), .int .u8 (bt c.k 4), .int .u8 (bt c.k 5), .int .u8 (bt c.k 6), .int .u8 (bt c.k 7), .int .i64 c.v, .string c.s, .int .i64 c.c, .int .i64 c.q]) (.agg #[.int .i64 d.ix, .int .i64 d.ep, .int .u8 (bt d.k 0), .int .u8 (bt d.k 1), .int .u8 (bt d.k 2), .int .u8 (bt d.k 3), .int .u8 (bt d.k 4), .int .u8 (bt d.k 5), .int .u8 (bt d.k 6), .int .u8 (bt d.k 7), .int .i64 d.v, .string d.s, .int .i64 d.c, .int .i64 d.q])).run Tryd.prog w = .ok (eqRc c d) w := by
  have ht : Tryd.prog.underlying 41 = some (.struct (Tryd.prog.fieldsOf 41)) := by unfold Program.fieldsOf; rw [Tryd.underlying41]
  have hp : Tryd.prog.stoodInHeld 41 = false := by kernel_rfl
  have hu := Tryd.underlying3
  have ha2 := Tryd.isAgg3
  have ha := Tryd.isAgg37
  have hz := Tryd.sizeOf37
  have e0 : (#[.int .i64 c.ix, .int .i64 c.ep, .int .u8 (bt c.k 0), .int .u8 (bt c.k 1), .int .u8 (bt c.k 2), .int .u8 (bt c.k 3), .int .u8 (bt c.k 4), .int .u8 (bt c.k 5), .int .u8 (bt c.k 6), .int .u8 (bt c.k 7), .int .i64 c.v, .string c.s, .int .i64 c.c, .int .i64 c.q] : Array Value).extract 2 (2 + 8) = #[.int .u8 (bt (c.k) 0), .int .u8 (bt (c.k) 1), .int .u8 (bt (c.k) 2), .int .u8 (bt (c.k) 3), .int .u8 (bt (c.k) 4), .int .u8 (bt (c.k) 5), .int .u8 (bt (c.k) 6), .int .u8 (bt (c.k) 7)] := rfl
  have e1 : (#[.int .i64 d.ix, .int .i64 d.ep, .int .u8 (bt d.k 0), .int .u8 (bt d.k 1), .int .u8 (bt d.k 2), .int .u8 (bt d.k 3), .int .u8 (bt d.k 4), .int .u8 (bt d.k 5), .int .u8 (bt d.k 6), .int .u8 (bt d.k 7), .int .i64 d.v, .string d.s, .int .i64 d.c, .int .i64 d.q] : Array Value).extract 2 (2 + 8) = #[.int .u8 (bt (d.k) 0), .int .u8 (bt (d.k) 1), .int .u8 (bt (d.k) 2), .int .u8 (bt (d.k) 3), .int .u8 (bt (d.k) 4), .int .u8 (bt (d.k) 5), .int .u8 (bt (d.k) 6), .int .u8 (bt (d.k) 7)] := rfl
  have hs := Tryd.underlying9
  have ha3 := Tryd.isAgg9
  rw [run_equalIn_struct w (n + 1 + 1 + 1) _ _ _ ht hp]
  unfold Program.fieldsOf
  rw [Tryd.underlying41]
  unfold eqRc
  have hk := eql_key c.k d.k (n + 1)
  generalize eqBt c.k d.k = z at *
  have hq : (Op.equalIn (n + 1 + 1 + 1) 39 (.agg #[.int .i64 c.c, .int .i64 c.q]) (.agg #[.int .i64 d.c, .int .i64 d.q])).run Tryd.prog w = .ok (c.c == d.c && c.q == d.q) w := eqi_req3 c.c c.q d.c d.q n w
  generalize (c.c == d.c && c.q == d.q) = y at hq ⊢
  have ha4 := Tryd.isAgg39
  have hz4 := Tryd.sizeOf39
  have e2 : (#[.int .i64 c.ix, .int .i64 c.ep, .int .u8 (bt c.k 0), .int .u8 (bt c.k 1), .int .u8 (bt c.k 2), .int .u8 (bt c.k 3), .int .u8 (bt c.k 4), .int .u8 (bt c.k 5), .int .u8 (bt c.k 6), .int .u8 (bt c.k 7), .int .i64 c.v, .string c.s, .int .i64 c.c, .int .i64 c.q] : Array Value).extract 12 (12 + 2) = #[.int .i64 c.c, .int .i64 c.q] := rfl
  have e3 : (#[.int .i64 d.ix, .int .i64 d.ep, .int .u8 (bt d.k 0), .int .u8 (bt d.k 1), .int .u8 (bt d.k 2), .int .u8 (bt d.k 3), .int .u8 (bt d.k 4), .int .u8 (bt d.k 5), .int .u8 (bt d.k 6), .int .u8 (bt d.k 7), .int .i64 d.v, .string d.s, .int .i64 d.c, .int .i64 d.q] : Array Value).extract 12 (12 + 2) = #[.int .i64 d.c, .int .i64 d.q] := rfl
  simp only [Op.eqFields, part, Sem.run_bind, ha, hz, ha2, ha3, ha4, hz4, Sem.run_ite, Result.andThen_ok, Sem.run_pure, if_true, e0, e1, e2, e3, hk, hq]
  simp [run_equalIn_int w (n + 1 + 1) _ .i64 .i64 _ _ hu, run_equalIn_string w (n + 1 + 1) _ _ _ hs, hq]
  by_cases h1 : c.ix = d.ix
  · by_cases h2 : c.ep = d.ep
    · by_cases h3 : c.v = d.v
      · by_cases h4 : c.s.toList = d.s.toList
        · cases z <;> cases y <;> simp [h1, h2, h3, h4]
        · cases z <;> simp [h1, h2, h3, h4]
      · cases z <;> simp [h1, h2, h3]
    · simp [h1, h2]
  · simp [h1]

theorem eql_rec (c d : Rc) (w : World) : (binOp .eql 41 (.agg #[.int .i64 c.ix, .int .i64 c.ep, .int .u8 (bt c.k 0), .int .u8 (bt c.k 1), .int .u8 (bt c.k 2), .int .u8 (bt c.k 3), .int .u8 (bt c.k 4), .int .u8 (bt c.k 5), .int .u8 (bt c.k 6), .int .u8 (bt c.k 7), .int .i64 c.v, .string c.s, .int .i64 c.c, .int .i64 c.q]) (.agg #[.int .i64 d.ix, .int .i64 d.ep, .int .u8 (bt d.k 0), .int .u8 (bt d.k 1), .int .u8 (bt d.k 2), .int .u8 (bt d.k 3), .int .u8 (bt d.k 4), .int .u8 (bt d.k 5), .int .u8 (bt d.k 6), .int .u8 (bt d.k 7), .int .i64 d.v, .string d.s, .int .i64 d.c, .int .i64 d.q])).run Tryd.prog w = .ok (.bool (eqRc c d)) w := by
  rw [run_eql_struct, show (10000 : Nat) = 9996 + 1 + 1 + 1 + 1 from rfl, eqi_rec]
  rfl

theorem neq_rec (c d : Rc) (w : World) : (binOp .neq 41 (.agg #[.int .i64 c.ix, .int .i64 c.ep, .int .u8 (bt c.k 0), .int .u8 (bt c.k 1), .int .u8 (bt c.k 2), .int .u8 (bt c.k 3), .int .u8 (bt c.k 4), .int .u8 (bt c.k 5), .int .u8 (bt c.k 6), .int .u8 (bt c.k 7), .int .i64 c.v, .string c.s, .int .i64 c.c, .int .i64 c.q]) (.agg #[.int .i64 d.ix, .int .i64 d.ep, .int .u8 (bt d.k 0), .int .u8 (bt d.k 1), .int .u8 (bt d.k 2), .int .u8 (bt d.k 3), .int .u8 (bt d.k 4), .int .u8 (bt d.k 5), .int .u8 (bt d.k 6), .int .u8 (bt d.k 7), .int .i64 d.v, .string d.s, .int .i64 d.c, .int .i64 d.q])).run Tryd.prog w = .ok (.bool (!(eqRc c d))) w := by
  have h := eqi_rec c d 9996 w
  simp only [binOp]
  simp [show Op.equal 41 (.agg #[.int .i64 c.ix, .int .i64 c.ep, .int .u8 (bt c.k 0), .int .u8 (bt c.k 1), .int .u8 (bt c.k 2), .int .u8 (bt c.k 3), .int .u8 (bt c.k 4), .int .u8 (bt c.k 5), .int .u8 (bt c.k 6), .int .u8 (bt c.k 7), .int .i64 c.v, .string c.s, .int .i64 c.c, .int .i64 c.q]) (.agg #[.int .i64 d.ix, .int .i64 d.ep, .int .u8 (bt d.k 0), .int .u8 (bt d.k 1), .int .u8 (bt d.k 2), .int .u8 (bt d.k 3), .int .u8 (bt d.k 4), .int .u8 (bt d.k 5), .int .u8 (bt d.k 6), .int .u8 (bt d.k 7), .int .i64 d.v, .string d.s, .int .i64 d.c, .int .i64 d.q]) = Op.equalIn (9996 + 1 + 1 + 1 + 1) 41 (.agg #[.int .i64 c.ix, .int .i64 c.ep, .int .u8 (bt c.k 0), .int .u8 (bt c.k 1), .int .u8 (bt c.k 2), .int .u8 (bt c.k 3), .int .u8 (bt c.k 4), .int .u8 (bt c.k 5), .int .u8 (bt c.k 6), .int .u8 (bt c.k 7), .int .i64 c.v, .string c.s, .int .i64 c.c, .int .i64 c.q]) (.agg #[.int .i64 d.ix, .int .i64 d.ep, .int .u8 (bt d.k 0), .int .u8 (bt d.k 1), .int .u8 (bt d.k 2), .int .u8 (bt d.k 3), .int .u8 (bt d.k 4), .int .u8 (bt d.k 5), .int .u8 (bt d.k 6), .int .u8 (bt d.k 7), .int .i64 d.v, .string d.s, .int .i64 d.c, .int .i64 d.q]) from rfl, h]

end Go.Proofs.YtnbgdkdnlfomeabDoor.M
