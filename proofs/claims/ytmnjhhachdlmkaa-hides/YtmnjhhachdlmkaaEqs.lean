import Derived.Test.YtmnjhhachdlmkaaBase
import Derived.Laws.StructEq
namespace Go.Proofs.Ytmnjhhachdlmkaa

theorem eqClass (d : Nat) (a b c e a' b' c' e' : Int) (w : World) : (Op.equalIn (d + 2) 23 (.agg #[.int .i64 a, .int .i64 b, .int .i64 c, .int .i64 e]) (.agg #[.int .i64 a', .int .i64 b', .int .i64 c', .int .i64 e'])).run Try.prog w =
    .ok (a == a' && (b == b' && (c == c' && e == e'))) w := by
  have u3 := Try.underlying3
  have a3 := Try.isAgg3
  have z3 := Try.sizeOf3
  have hS : Try.prog.underlying 23 = some (.struct (Try.prog.fieldsOf 23)) := by kernel_rfl
  have hp : Try.prog.stoodInHeld 23 = false := by kernel_rfl
  rw [show d + 2 = (d + 1) + 1 from rfl, run_equalIn_agg w (d + 1) 23 _ _ hS hp]
  simp only [Program.fieldsOf, Try.underlying23]
  go_simp
  by_cases h1 : a = a' <;> by_cases h2 : b = b' <;> by_cases h3 : c = c' <;> by_cases h4 : e = e' <;> simp [h1, h2, h3, h4]

theorem ite_ok {a b : Int} {B : Bool} {r : Result Bool} {w : World} (h : r = .ok B w) : (if a = b then r else .ok false w) = .ok (a == b && B) w := by
  by_cases e : a = b <;> simp [e, h]
theorem ite_last {a b : Int} {w : World} : (if a = b then Result.ok true w else .ok false w) = .ok (a == b) w := by
  by_cases e : a = b <;> simp [e]
theorem ite_cls {a b c e a' b' c' e' : Int} {B : Bool} {r : Result Bool} {w : World} (h : r = .ok B w) : (if a = a' → b = b' → c = c' → ¬ e = e' then .ok false w else r) = .ok ((a == a' && (b == b' && (c == c' && e == e'))) && B) w := by
  by_cases h1 : a = a' <;> by_cases h2 : b = b' <;> by_cases h3 : c = c' <;> by_cases h4 : e = e' <;> simp [h1, h2, h3, h4, h]

theorem eqReq (a b c x1 x2 x3 x4 f g h a' b' c' x1' x2' x3' x4' f' g' h' : Int) (w : World) :
    (Op.equalIn 10000 25 (.agg #[.int .i64 a, .int .i64 b, .int .i64 c, .int .i64 x1, .int .i64 x2, .int .i64 x3, .int .i64 x4, .int .i64 f, .int .i64 g, .int .i64 h]) (.agg #[.int .i64 a', .int .i64 b', .int .i64 c', .int .i64 x1', .int .i64 x2', .int .i64 x3', .int .i64 x4', .int .i64 f', .int .i64 g', .int .i64 h'])).run Try.prog w =
    .ok (a == a' && (b == b' && (c == c' && ((x1 == x1' && (x2 == x2' && (x3 == x3' && x4 == x4'))) && (f == f' && (g == g' && h == h')))))) w := by
  have u3 := Try.underlying3
  have a3 := Try.isAgg3
  have z3 := Try.sizeOf3
  have a23 := Try.isAgg23
  have z23 := Try.sizeOf23
  have hS : Try.prog.underlying 25 = some (.struct (Try.prog.fieldsOf 25)) := by kernel_rfl
  have hp : Try.prog.stoodInHeld 25 = false := by kernel_rfl
  have hc := fun (a b c e a' b' c' e' : Int) (w : World) => eqClass 9997 a b c e a' b' c' e' w
  rw [show (10000 : Nat) = 9999 + 1 from rfl, run_equalIn_agg w 9999 25 _ _ hS hp]
  simp only [Program.fieldsOf, Try.underlying25]
  go_simp
  exact ite_ok (ite_ok (ite_ok (ite_cls (ite_ok (ite_ok ite_last)))))
end Go.Proofs.Ytmnjhhachdlmkaa
