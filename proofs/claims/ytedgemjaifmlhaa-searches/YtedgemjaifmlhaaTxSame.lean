/-
  TWO STRUCTS OF TWO TEXTS, held against each other. Own text of the verifier.
-/
import Derived.Test.YtedgemjaifmlhaaTxRefFa
import Derived.Laws.StructEq
namespace Go.Proofs.Ytedgemjaifmlhaa
open Go.RowKit

theorem eq_contig (a b : ByteArray) (w : World) : (Op.equalIn 10000 35 (.agg #[.string a, .string b]) (.agg #[.string a, .string b])).run Try.prog w = .ok true w := by
  simp [go_sem, Try.underlying35, Try.underlying9]
theorem eq_read (a b : ByteArray) (w : World) : (Op.equalIn 10000 68 (.agg #[.string a, .string b]) (.agg #[.string a, .string b])).run Try.prog w = .ok true w := by
  simp [go_sem, Try.underlying68, Try.underlying9]

theorem neq_contig (a b : ByteArray) (w : World) : (binOp .neq 35 (.agg #[.string a, .string b]) (.agg #[.string a, .string b])).run Try.prog w = .ok (.bool false) w := by
  rw [run_neq_struct, eq_contig]; rfl
theorem neq_read (a b : ByteArray) (w : World) : (binOp .neq 68 (.agg #[.string a, .string b]) (.agg #[.string a, .string b])).run Try.prog w = .ok (.bool false) w := by
  rw [run_neq_struct, eq_read]; rfl
theorem eql_contig (a b : ByteArray) (w : World) : (binOp .eql 35 (.agg #[.string a, .string b]) (.agg #[.string a, .string b])).run Try.prog w = .ok (.bool true) w := by
  rw [run_eql_struct, eq_contig]; rfl
theorem eql_read (a b : ByteArray) (w : World) : (binOp .eql 68 (.agg #[.string a, .string b]) (.agg #[.string a, .string b])).run Try.prog w = .ok (.bool true) w := by
  rw [run_eql_struct, eq_read]; rfl

end Go.Proofs.Ytedgemjaifmlhaa
