/-
  Which function a method of an interface value is: closed facts off the program's tables.
-/
import Derived.Test.YtmnjhhachdlmkaaBase
namespace Go.Proofs.Ytmnjhhachdlmkaa

theorem m_leasePlain (a : Addr) (w : World) : (method 301 96 (.pointer (some a)) "Plain").run Try.prog w = .ok (101, .pointer (some a)) w := by kernel_rfl
theorem m_fetchPlain (a : Addr) (w : World) : (method 301 99 (.pointer (some a)) "Plain").run Try.prog w = .ok (109, .pointer (some a)) w := by kernel_rfl
theorem m_releasePlain (a : Addr) (w : World) : (method 301 102 (.pointer (some a)) "Plain").run Try.prog w = .ok (111, .pointer (some a)) w := by kernel_rfl
theorem m_statusPlain (a : Addr) (w : World) : (method 301 105 (.pointer (some a)) "Plain").run Try.prog w = .ok (113, .pointer (some a)) w := by kernel_rfl
theorem m_leaseFields (a : Addr) (w : World) : (method 301 96 (.pointer (some a)) "dealer/wire.fields").run Try.prog w = .ok (102, .pointer (some a)) w := by kernel_rfl
theorem m_fetchFields (a : Addr) (w : World) : (method 301 99 (.pointer (some a)) "dealer/wire.fields").run Try.prog w = .ok (110, .pointer (some a)) w := by kernel_rfl
theorem m_releaseFields (a : Addr) (w : World) : (method 301 102 (.pointer (some a)) "dealer/wire.fields").run Try.prog w = .ok (112, .pointer (some a)) w := by kernel_rfl
theorem m_statusFields (a : Addr) (w : World) : (method 301 105 (.pointer (some a)) "dealer/wire.fields").run Try.prog w = .ok (114, .pointer (some a)) w := by kernel_rfl
theorem field_kind (k s i ck cm cl cn f c p : Int) (w : World) : (Instr.field 25 (.agg #[.int .i64 k, .int .i64 s, .int .i64 i, .int .i64 ck, .int .i64 cm, .int .i64 cl, .int .i64 cn, .int .i64 f, .int .i64 c, .int .i64 p]) 0).run Try.prog w = .ok (.int .i64 k) w := by kernel_rfl
end Go.Proofs.Ytmnjhhachdlmkaa
