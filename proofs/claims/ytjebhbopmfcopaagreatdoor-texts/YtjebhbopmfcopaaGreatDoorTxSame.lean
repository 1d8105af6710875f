/-
  TWO STRUCTS OF TWO TEXTS, held against each other. Own text of the verifier.
-/
import Derived.Test.YtjebhbopmfcopaaGreatDoorTxRefFa
import Derived.Laws.StructEq
namespace Go.Proofs.YtjebhbopmfcopaaGreatDoor
open Go.RowKit

theorem eq_contig (a b : ByteArray) (w : World) : (Op.equalIn 10000 59 (.agg #[.string a, .string b]) (.agg #[.string a, .string b])).run Tryz.prog w = .ok true w := by
  simp [go_sem, Tryz.underlying59, Tryz.underlying9]
theorem eq_read (a b : ByteArray) (w : World) : (Op.equalIn 10000 56 (.agg #[.string a, .string b]) (.agg #[.string a, .string b])).run Tryz.prog w = .ok true w := by
  simp [go_sem, Tryz.underlying56, Tryz.underlying9]

theorem neq_contig (a b : ByteArray) (w : World) : (binOp .neq 59 (.agg #[.string a, .string b]) (.agg #[.string a, .string b])).run Tryz.prog w = .ok (.bool false) w := by
  rw [run_neq_struct, eq_contig]; rfl
theorem neq_read (a b : ByteArray) (w : World) : (binOp .neq 56 (.agg #[.string a, .string b]) (.agg #[.string a, .string b])).run Tryz.prog w = .ok (.bool false) w := by
  rw [run_neq_struct, eq_read]; rfl
theorem eql_contig (a b : ByteArray) (w : World) : (binOp .eql 59 (.agg #[.string a, .string b]) (.agg #[.string a, .string b])).run Tryz.prog w = .ok (.bool true) w := by
  rw [run_eql_struct, eq_contig]; rfl
theorem eql_read (a b : ByteArray) (w : World) : (binOp .eql 56 (.agg #[.string a, .string b]) (.agg #[.string a, .string b])).run Tryz.prog w = .ok (.bool true) w := by
  rw [run_eql_struct, eq_read]; rfl

end Go.Proofs.YtjebhbopmfcopaaGreatDoor
