/-
  Own text: whether cells, records, requests, what clients got are the same.
-/
import Derived.Test.YtnbgdkdnlfomeaaDoorBDat
import Derived.Laws.StructEq
import Derived.ChangeKeysEq
namespace Go.Proofs.YtnbgdkdnlfomeaaDoor.M
open Go.ChangeShapes Go.WideShapes Go.ChangeAt Go.RowKit
set_option linter.unusedSimpArgs false

def eqCe (c d : Ce) : Bool := eqBt c.k d.k && (c.v == d.v && c.s.toList == d.s.toList)
def eqDn (c d : Dn) : Bool := c.c == d.c && (c.q == d.q && c.v == d.v)
def eqRc (c d : Rc) : Bool := c.ix == d.ix && (c.ep == d.ep && (eqBt c.k d.k && (c.v == d.v && (c.s.toList == d.s.toList && (c.c == d.c && c.q == d.q)))))

theorem eqi_req (c q c2 q2 : Int) (n : Nat) (w : World) : (Op.equalIn (n + 1 + 1 + 1 + 1) 30 (.agg #[.int .i64 c, .int .i64 q]) (.agg #[.int .i64 c2, .int .i64 q2])).run Tryd.prog w = .ok (c == c2 && q == q2) w := by
  have ht : Tryd.prog.underlying 30 = some (.struct (Tryd.prog.fieldsOf 30)) := by unfold Program.fieldsOf; rw [Tryd.underlying30]
  have hp : Tryd.prog.stoodInHeld 30 = false := by kernel_rfl
  have hu := Tryd.underlying3
  have ha2 := Tryd.isAgg3
  rw [run_equalIn_struct w (n + 1 + 1 + 1) _ _ _ ht hp]
  unfold Program.fieldsOf
  rw [Tryd.underlying30]
  simp only [Op.eqFields, part, Sem.run_bind, ha2, Sem.run_ite, Result.andThen_ok, Sem.run_pure, if_true]
  simp [run_equalIn_int w (n + 1 + 1) _ .i64 .i64 _ _ hu]
  repeat (split <;> simp_all)

theorem eql_req (c q c2 q2 : Int) (w : World) : (binOp .eql 30 (.agg #[.int .i64 c, .int .i64 q]) (.agg #[.int .i64 c2, .int .i64 q2])).run Tryd.prog w = .ok (.bool (c == c2 && q == q2)) w := by
  rw [run_eql_struct, show (10000 : Nat) = 9996 + 1 + 1 + 1 + 1 from rfl, eqi_req]
  rfl

theorem neq_req (c q c2 q2 : Int) (w : World) : (binOp .neq 30 (.agg #[.int .i64 c, .int .i64 q]) (.agg #[.int .i64 c2, .int .i64 q2])).run Tryd.prog w = .ok (.bool (!(c == c2 && q == q2))) w := by
  have h := eqi_req c q c2 q2 9996 w
  simp only [binOp]
  simp [show Op.equal 30 (.agg #[.int .i64 c, .int .i64 q]) (.agg #[.int .i64 c2, .int .i64 q2]) = Op.equalIn (9996 + 1 + 1 + 1 + 1) 30 (.agg #[.int .i64 c, .int .i64 q]) (.agg #[.int .i64 c2, .int .i64 q2]) from rfl, h]

theorem eqi_don (c d : Dn) (n : Nat) (w : World) : (Op.equalIn (n + 1 + 1 + 1 + 1) 82 (.agg #[.int .i64 c.c, .int .i64 c.q, .int .i64 c.v]) (.agg #[.int .i64 d.c, .int .i64 d.q, .int .i64 d.v])).run Tryd.prog w = .ok (eqDn c d) w := by
  have ht : Tryd.prog.underlying 82 = some (.struct (Tryd.prog.fieldsOf 82)) := by unfold Program.fieldsOf; rw [Tryd.underlying82]
  have hp : Tryd.prog.stoodInHeld 82 = false := by kernel_rfl
  have hu := Tryd.underlying3
  have ha2 := Tryd.isAgg3
  rw [run_equalIn_struct w (n + 1 + 1 + 1) _ _ _ ht hp]
  unfold Program.fieldsOf
  rw [Tryd.underlying82]
  unfold eqDn
  simp only [Op.eqFields, part, Sem.run_bind, ha2, Sem.run_ite, Result.andThen_ok, Sem.run_pure, if_true]
  simp [run_equalIn_int w (n + 1 + 1) _ .i64 .i64 _ _ hu]
  repeat (split <;> simp_all)

theorem eql_don (c d : Dn) (w : World) : (binOp .eql 82 (.agg #[.int .i64 c.c, .int .i64 c.q, .int .i64 c.v]) (.agg #[.int .i64 d.c, .int .i64 d.q, .int .i64 d.v])).run Tryd.prog w = .ok (.bool (eqDn c d)) w := by
  rw [run_eql_struct, show (10000 : Nat) = 9996 + 1 + 1 + 1 + 1 from rfl, eqi_don]
  rfl

theorem neq_don (c d : Dn) (w : World) : (binOp .neq 82 (.agg #[.int .i64 c.c, .int .i64 c.q, .int .i64 c.v]) (.agg #[.int .i64 d.c, .int .i64 d.q, .int .i64 d.v])).run Tryd.prog w = .ok (.bool (!(eqDn c d))) w := by
  have h := eqi_don c d 9996 w
  simp only [binOp]
  simp [show Op.equal 82 (.agg #[.int .i64 c.c, .int .i64 c.q, .int .i64 c.v]) (.agg #[.int .i64 d.c, .int .i64 d.q, .int .i64 d.v]) = Op.equalIn (9996 + 1 + 1 + 1 + 1) 82 (.agg #[.int .i64 c.c, .int .i64 c.q, .int .i64 c.v]) (.agg #[.int .i64 d.c, .int .i64 d.q, .int .i64 d.v]) from rfl, h]

theorem eqi_cel (c d : Ce) (n : Nat) (w : World) : (Op.equalIn (n + 1 + 1 + 1 + 1) 53 (.agg #[.int .u8 (bt c.k 0), .int .u8 (bt c.k 1), .int .u8 (bt c.k 2), .int .u8 (bt c.k 3), .int .u8 (bt c.k 4), .int .u8 (bt c.k 5), .int .u8 (bt c.k 6), .int .u8 (bt c.k 7), .int .i64 c.v, .string c.s]) (.agg #[.int .u8 (bt d.k 0), .int .u8 (bt d.k 1), .int .u8 (bt d.k 2), .int .u8 (bt d.k 3), .int .u8 (bt d.k 4), .int .u8 (bt d.k 5), .int .u8 (bt d.k 6), .int .u8 (bt d.k 7), .int .i64 d.v, .string d.s])).run Tryd.prog w = .ok (eqCe c d) w := by
  have ht : Tryd.prog.underlying 53 = some (.struct (Tryd.prog.fieldsOf 53)) := by unfold Program.fieldsOf; rw [Tryd.underlying53]
  have hp : Tryd.prog.stoodInHeld 53 = false := by kernel_rfl
  have hu := Tryd.underlying3
  have ha2 := Tryd.isAgg3
  have ha := Tryd.isAgg28
  have hz := Tryd.sizeOf28
  have e0 : (#[.int .u8 (bt c.k 0), .int .u8 (bt c.k 1), .int .u8 (bt c.k 2), .int .u8 (bt c.k 3), .int .u8 (bt c.k 4), .int .u8 (bt c.k 5), .int .u8 (bt c.k 6), .int .u8 (bt c.k 7), .int .i64 c.v, .string c.s] : Array Value).extract 0 (0 + 8) = #[.int .u8 (bt (c.k) 0), .int .u8 (bt (c.k) 1), .int .u8 (bt (c.k) 2), .int .u8 (bt (c.k) 3), .int .u8 (bt (c.k) 4), .int .u8 (bt (c.k) 5), .int .u8 (bt (c.k) 6), .int .u8 (bt (c.k) 7)] := rfl
  have e1 : (#[.int .u8 (bt d.k 0), .int .u8 (bt d.k 1), .int .u8 (bt d.k 2), .int .u8 (bt d.k 3), .int .u8 (bt d.k 4), .int .u8 (bt d.k 5), .int .u8 (bt d.k 6), .int .u8 (bt d.k 7), .int .i64 d.v, .string d.s] : Array Value).extract 0 (0 + 8) = #[.int .u8 (bt (d.k) 0), .int .u8 (bt (d.k) 1), .int .u8 (bt (d.k) 2), .int .u8 (bt (d.k) 3), .int .u8 (bt (d.k) 4), .int .u8 (bt (d.k) 5), .int .u8 (bt (d.k) 6), .int .u8 (bt (d.k) 7)] := rfl
  have hs := Tryd.underlying9
  have ha3 := Tryd.isAgg9
  rw [run_equalIn_struct w (n + 1 + 1 + 1) _ _ _ ht hp]
  unfold Program.fieldsOf
  rw [Tryd.underlying53]
  unfold eqCe
  have hk := eql_key c.k d.k (n + 1)
  generalize eqBt c.k d.k = z at *
  simp only [Op.eqFields, part, Sem.run_bind, ha, hz, ha2, ha3, Sem.run_ite, Result.andThen_ok, Sem.run_pure, if_true, Nat.zero_add, e0, e1, hk]
  simp [run_equalIn_int w (n + 1 + 1) _ .i64 .i64 _ _ hu, run_equalIn_string w (n + 1 + 1) _ _ _ hs]
  repeat (split <;> simp_all)

theorem eql_cel (c d : Ce) (w : World) : (binOp .eql 53 (.agg #[.int .u8 (bt c.k 0), .int .u8 (bt c.k 1), .int .u8 (bt c.k 2), .int .u8 (bt c.k 3), .int .u8 (bt c.k 4), .int .u8 (bt c.k 5), .int .u8 (bt c.k 6), .int .u8 (bt c.k 7), .int .i64 c.v, .string c.s]) (.agg #[.int .u8 (bt d.k 0), .int .u8 (bt d.k 1), .int .u8 (bt d.k 2), .int .u8 (bt d.k 3), .int .u8 (bt d.k 4), .int .u8 (bt d.k 5), .int .u8 (bt d.k 6), .int .u8 (bt d.k 7), .int .i64 d.v, .string d.s])).run Tryd.prog w = .ok (.bool (eqCe c d)) w := by
  rw [run_eql_struct, show (10000 : Nat) = 9996 + 1 + 1 + 1 + 1 from rfl, eqi_cel]
  rfl

theorem neq_cel (c d : Ce) (w : World) : (binOp .neq 53 (.agg #[.int .u8 (bt c.k 0), .int .u8 (bt c.k 1), .int .u8 (bt c.k 2), .int .u8 (bt c.k 3), .int .u8 (bt c.k 4), .int .u8 (bt c.k 5), .int .u8 (bt c.k 6), .int .u8 (bt c.k 7), .int .i64 c.v, .string c.s]) (.agg #[.int .u8 (bt d.k 0), .int .u8 (bt d.k 1), .int .u8 (bt d.k 2), .int .u8 (bt d.k 3), .int .u8 (bt d.k 4), .int .u8 (bt d.k 5), .int .u8 (bt d.k 6), .int .u8 (bt d.k 7), .int .i64 d.v, .string d.s])).run Tryd.prog w = .ok (.bool (!(eqCe c d))) w := by
  have h := eqi_cel c d 9996 w
  simp only [binOp]
  simp [show Op.equal 53 (.agg #[.int .u8 (bt c.k 0), .int .u8 (bt c.k 1), .int .u8 (bt c.k 2), .int .u8 (bt c.k 3), .int .u8 (bt c.k 4), .int .u8 (bt c.k 5), .int .u8 (bt c.k 6), .int .u8 (bt c.k 7), .int .i64 c.v, .string c.s]) (.agg #[.int .u8 (bt d.k 0), .int .u8 (bt d.k 1), .int .u8 (bt d.k 2), .int .u8 (bt d.k 3), .int .u8 (bt d.k 4), .int .u8 (bt d.k 5), .int .u8 (bt d.k 6), .int .u8 (bt d.k 7), .int .i64 d.v, .string d.s]) = Op.equalIn (9996 + 1 + 1 + 1 + 1) 53 (.agg #[.int .u8 (bt c.k 0), .int .u8 (bt c.k 1), .int .u8 (bt c.k 2), .int .u8 (bt c.k 3), .int .u8 (bt c.k 4), .int .u8 (bt c.k 5), .int .u8 (bt c.k 6), .int .u8 (bt c.k 7), .int .i64 c.v, .string c.s]) (.agg #[.int .u8 (bt d.k 0), .int .u8 (bt d.k 1), .int .u8 (bt d.k 2), .int .u8 (bt d.k 3), .int .u8 (bt d.k 4), .int .u8 (bt d.k 5), .int .u8 (bt d.k 6), .int .u8 (bt d.k 7), .int .i64 d.v, .string d.s]) from rfl, h]

theorem eqi_req3 (c q c2 q2 : Int) (n : Nat) (w : World) : (Op.equalIn (n + 1 + 1 + 1) 30 (.agg #[.int .i64 c, .int .i64 q]) (.agg #[.int .i64 c2, .int .i64 q2])).run Tryd.prog w = .ok (c == c2 && q == q2) w := by
  have ht : Tryd.prog.underlying 30 = some (.struct (Tryd.prog.fieldsOf 30)) := by unfold Program.fieldsOf; rw [Tryd.underlying30]
  have hp : Tryd.prog.stoodInHeld 30 = false := by kernel_rfl
  have hu := Tryd.underlying3
  have ha2 := Tryd.isAgg3
  rw [run_equalIn_struct w (n + 1 + 1) _ _ _ ht hp]
  unfold Program.fieldsOf
  rw [Tryd.underlying30]
  simp only [Op.eqFields, part, Sem.run_bind, ha2, Sem.run_ite, Result.andThen_ok, Sem.run_pure, if_true]
  simp [run_equalIn_int w (n + 1) _ .i64 .i64 _ _ hu]
  repeat (split <;> simp_all)

theorem eqi_rec (c d : Rc) (n : Nat) (w : World) : (Op.equalIn (n + 1 + 1 + 1 + 1) 64 (.agg #[.int .i64 c.ix, .int .i64 c.ep, .int .u8 (bt c.k 0), .int .u8 (bt c.k 1), .int .u8 (bt c.k 2), .int .u8 (bt c.k 3), .int .u8 (bt c.k 4), .int .u8 (bt c.k 5), .int .u8 (bt c.k 6), .int .u8 (bt c.k 7), .int .i64 c.v, .string c.s, .int .i64 c.c, .int .i64 c.q]) (.agg #[.int .i64 d.ix, .int .i64 d.ep, .int .u8 (bt d.k 0), .int .u8 (bt d.k 1), .int .u8 (bt d.k 2), .int .u8 (bt d.k 3), .int .u8 (bt d.k 4), .int .u8 (bt d.k 5), .int .u8 (bt d.k 6), .int .u8 (bt d.k 7), .int .i64 d.v, .string d.s, .int .i64 d.c, .int .i64 d.q])).run Tryd.prog w = .ok (eqRc c d) w := by
  have ht : Tryd.prog.underlying 64 = some (.struct (Tryd.prog.fieldsOf 64)) := by unfold Program.fieldsOf; rw [Tryd.underlying64]
  have hp : Tryd.prog.stoodInHeld 64 = false := by kernel_rfl
  have hu := Tryd.underlying3
  have ha2 := Tryd.isAgg3
  have ha := Tryd.isAgg28
  have hz := Tryd.sizeOf28
  have e0 : (#[.int .i64 c.ix, .int .i64 c.ep, .int .u8 (bt c.k 0), .int .u8 (bt c.k 1), .int .u8 (bt c.k 2), .int .u8 (bt c.k 3), .int .u8 (bt c.k 4), .int .u8 (bt c.k 5), .int .u8 (bt c.k 6), .int .u8 (bt c.k 7), .int .i64 c.v, .string c.s, .int .i64 c.c, .int .i64 c.q] : Array Value).extract 2 (2 + 8) = #[.int .u8 (bt (c.k) 0), .int .u8 (bt (c.k) 1), .int .u8 (bt (c.k) 2), .int .u8 (bt (c.k) 3), .int .u8 (bt (c.k) 4), .int .u8 (bt (c.k) 5), .int .u8 (bt (c.k) 6), .int .u8 (bt (c.k) 7)] := rfl
  have e1 : (#[.int .i64 d.ix, .int .i64 d.ep, .int .u8 (bt d.k 0), .int .u8 (bt d.k 1), .int .u8 (bt d.k 2), .int .u8 (bt d.k 3), .int .u8 (bt d.k 4), .int .u8 (bt d.k 5), .int .u8 (bt d.k 6), .int .u8 (bt d.k 7), .int .i64 d.v, .string d.s, .int .i64 d.c, .int .i64 d.q] : Array Value).extract 2 (2 + 8) = #[.int .u8 (bt (d.k) 0), .int .u8 (bt (d.k) 1), .int .u8 (bt (d.k) 2), .int .u8 (bt (d.k) 3), .int .u8 (bt (d.k) 4), .int .u8 (bt (d.k) 5), .int .u8 (bt (d.k) 6), .int .u8 (bt (d.k) 7)] := rfl
  have hs := Tryd.underlying9
  have ha3 := Tryd.isAgg9
  rw [run_equalIn_struct w (n + 1 + 1 + 1) _ _ _ ht hp]
  unfold Program.fieldsOf
  rw [Tryd.underlying64]
  unfold eqRc
  have hk := eql_key c.k d.k (n + 1)
  generalize eqBt c.k d.k = z at *
  have hq : (Op.equalIn (n + 1 + 1 + 1) 30 (.agg #[.int .i64 c.c, .int .i64 c.q]) (.agg #[.int .i64 d.c, .int .i64 d.q])).run Tryd.prog w = .ok (c.c == d.c && c.q == d.q) w := eqi_req3 c.c c.q d.c d.q n w
  generalize (c.c == d.c && c.q == d.q) = y at hq ⊢
  have ha4 := Tryd.isAgg30
  have hz4 := Tryd.sizeOf30
  have e2 : (#[.int .i64 c.ix, .int .i64 c.ep, .int .u8 (bt c.k 0), .int .u8 (bt c.k 1), .int .u8 (bt c.k 2), .int .u8 (bt c.k 3), .int .u8 (bt c.k 4), .int .u8 (bt c.k 5), .int .u8 (bt c.k 6), .int .u8 (bt c.k 7), .int .i64 c.v, .string c.s, .int .i64 c.c, .int .i64 c.q] : Array Value).extract 12 (12 + 2) = #[.int .i64 c.c, .int .i64 c.q] := rfl
  have e3 : (#[.int .i64 d.ix, .int .i64 d.ep, .int .u8 (bt d.k 0), .int .u8 (bt d.k 1), .int .u8 (bt d.k 2), .int .u8 (bt d.k 3), .int .u8 (bt d.k 4), .int .u8 (bt d.k 5), .int .u8 (bt d.k 6), .int .u8 (bt d.k 7), .int .i64 d.v, .string d.s, .int .i64 d.c, .int .i64 d.q] : Array Value).extract 12 (12 + 2) = #[.int .i64 d.c, .int .i64 d.q] := rfl
  simp only [Op.eqFields, part, Sem.run_bind, ha, hz, ha2, ha3, ha4, hz4, Sem.run_ite, Result.andThen_ok, Sem.run_pure, if_true, e0, e1, e2, e3, hk, hq]
  simp [run_equalIn_int w (n + 1 + 1) _ .i64 .i64 _ _ hu, run_equalIn_string w (n + 1 + 1) _ _ _ hs, hq]
  by_cases h1 : c.ix = d.ix
  · by_cases h2 : c.ep = d.ep
    · by_cases h3 : c.v = d.v
      · by_cases h4 : c.s.toList = d.s.toList
        · cases z <;> cases y <;> simp [h1, h2, h3, h4]
        · cases z <;> simp [h1, h2, h3, h4]
      · cases z <;> simp [h1, h2, h3]
    · simp [h1, h2]
  · simp [h1]

theorem eql_rec (c d : Rc) (w : World) : (binOp .eql 64 (.agg #[.int .i64 c.ix, .int .i64 c.ep, .int .u8 (bt c.k 0), .int .u8 (bt c.k 1), .int .u8 (bt c.k 2), .int .u8 (bt c.k 3), .int .u8 (bt c.k 4), .int .u8 (bt c.k 5), .int .u8 (bt c.k 6), .int .u8 (bt c.k 7), .int .i64 c.v, .string c.s, .int .i64 c.c, .int .i64 c.q]) (.agg #[.int .i64 d.ix, .int .i64 d.ep, .int .u8 (bt d.k 0), .int .u8 (bt d.k 1), .int .u8 (bt d.k 2), .int .u8 (bt d.k 3), .int .u8 (bt d.k 4), .int .u8 (bt d.k 5), .int .u8 (bt d.k 6), .int .u8 (bt d.k 7), .int .i64 d.v, .string d.s, .int .i64 d.c, .int .i64 d.q])).run Tryd.prog w = .ok (.bool (eqRc c d)) w := by
  rw [run_eql_struct, show (10000 : Nat) = 9996 + 1 + 1 + 1 + 1 from rfl, eqi_rec]
  rfl

theorem neq_rec (c d : Rc) (w : World) : (binOp .neq 64 (.agg #[.int .i64 c.ix, .int .i64 c.ep, .int .u8 (bt c.k 0), .int .u8 (bt c.k 1), .int .u8 (bt c.k 2), .int .u8 (bt c.k 3), .int .u8 (bt c.k 4), .int .u8 (bt c.k 5), .int .u8 (bt c.k 6), .int .u8 (bt c.k 7), .int .i64 c.v, .string c.s, .int .i64 c.c, .int .i64 c.q]) (.agg #[.int .i64 d.ix, .int .i64 d.ep, .int .u8 (bt d.k 0), .int .u8 (bt d.k 1), .int .u8 (bt d.k 2), .int .u8 (bt d.k 3), .int .u8 (bt d.k 4), .int .u8 (bt d.k 5), .int .u8 (bt d.k 6), .int .u8 (bt d.k 7), .int .i64 d.v, .string d.s, .int .i64 d.c, .int .i64 d.q])).run Tryd.prog w = .ok (.bool (!(eqRc c d))) w := by
  have h := eqi_rec c d 9996 w
  simp only [binOp]
  simp [show Op.equal 64 (.agg #[.int .i64 c.ix, .int .i64 c.ep, .int .u8 (bt c.k 0), .int .u8 (bt c.k 1), .int .u8 (bt c.k 2), .int .u8 (bt c.k 3), .int .u8 (bt c.k 4), .int .u8 (bt c.k 5), .int .u8 (bt c.k 6), .int .u8 (bt c.k 7), .int .i64 c.v, .string c.s, .int .i64 c.c, .int .i64 c.q]) (.agg #[.int .i64 d.ix, .int .i64 d.ep, .int .u8 (bt d.k 0), .int .u8 (bt d.k 1), .int .u8 (bt d.k 2), .int .u8 (bt d.k 3), .int .u8 (bt d.k 4), .int .u8 (bt d.k 5), .int .u8 (bt d.k 6), .int .u8 (bt d.k 7), .int .i64 d.v, .string d.s, .int .i64 d.c, .int .i64 d.q]) = Op.equalIn (9996 + 1 + 1 + 1 + 1) 64 (.agg #[.int .i64 c.ix, .int .i64 c.ep, .int .u8 (bt c.k 0), .int .u8 (bt c.k 1), .int .u8 (bt c.k 2), .int .u8 (bt c.k 3), .int .u8 (bt c.k 4), .int .u8 (bt c.k 5), .int .u8 (bt c.k 6), .int .u8 (bt c.k 7), .int .i64 c.v, .string c.s, .int .i64 c.c, .int .i64 c.q]) (.agg #[.int .i64 d.ix, .int .i64 d.ep, .int .u8 (bt d.k 0), .int .u8 (bt d.k 1), .int .u8 (bt d.k 2), .int .u8 (bt d.k 3), .int .u8 (bt d.k 4), .int .u8 (bt d.k 5), .int .u8 (bt d.k 6), .int .u8 (bt d.k 7), .int .i64 d.v, .string d.s, .int .i64 d.c, .int .i64 d.q]) from rfl, h]

end Go.Proofs.YtnbgdkdnlfomeaaDoor.M
