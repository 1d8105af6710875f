/-
  THE STEPS AHEAD OF EVERY SCRIPT ('first'), 'among', and a step as seven cells. Own text of the verifier.
-/
import Derived.Test.YtjebhbopmfcopaaGreatDoorBytes
namespace Go.Proofs.YtjebhbopmfcopaaGreatDoor
open Go.RowKit

/-- a step, as a value: its seven cells -/
structure OpV where
  k : Int
  a : Int
  b : Int
  c : Int
  s : ByteArray
  t : ByteArray
  la : Option Addr
  ln : Nat
  lc : Nat

def OpV.cells (o : OpV) : List Value := [.int .i64 o.k, .int .i64 o.a, .int .i64 o.b, .int .i64 o.c, .string o.s, .string o.t, .slice o.la o.ln o.lc]

/-- the ten steps that are asked in any case; h: the block of the one record -/
def firstOps (h : Nat) : List OpV := [
  ⟨1, 0, 0, 0, ⟨#[62, 111, 110, 101, 10, 65, 67, 71, 84, 10, 116, 84, 67, 103, 97, 10]⟩, ⟨#[]⟩, none, 0, 0⟩,
  ⟨2, 0, 0, 0, ⟨#[64, 114, 10, 65, 67, 71, 10, 43, 10, 73, 73, 73, 10]⟩, ⟨#[]⟩, none, 0, 0⟩,
  ⟨3, 0, 0, 0, ⟨#[65, 67, 71, 84, 78]⟩, ⟨#[]⟩, none, 0, 0⟩,
  ⟨4, 1, 0, 0, ⟨#[65, 67, 71, 84, 78]⟩, ⟨#[]⟩, none, 0, 0⟩,
  ⟨5, 0, 0, 0, ⟨#[]⟩, ⟨#[]⟩, none, 0, 0⟩,
  ⟨6, 0, 1, 1, ⟨#[84, 84, 71]⟩, ⟨#[]⟩, none, 0, 0⟩,
  ⟨7, 0, 0, 0, ⟨#[114]⟩, ⟨#[84, 84, 84, 71]⟩, none, 0, 0⟩,
  ⟨8, 0, 0, 0, ⟨#[]⟩, ⟨#[]⟩, some ⟨h, 0, none⟩, 1, 1⟩,
  ⟨9, 0, 0, 0, ⟨#[114, 9, 97, 109, 98, 105, 103, 117, 111, 117, 115, 10]⟩, ⟨#[]⟩, none, 0, 0⟩,
  ⟨10, 0, 2, 0, ⟨#[62, 111, 110, 101, 10, 65, 67, 71, 84, 84, 67, 71, 65, 10]⟩, ⟨#[64, 114, 10, 84, 84, 84, 71, 10, 43, 10, 73, 73, 73, 73, 10]⟩, none, 0, 0⟩]

def recordCells : Array Value := #[.string ⟨#[114]⟩, .int .i64 0, .int .i64 0, .string ⟨#[]⟩, .int .i64 0, .int .i64 0, .string ⟨#[]⟩, .string ⟨#[]⟩]

set_option maxRecDepth 100000 in
set_option maxHeartbeats 1600000 in
theorem first_any (w : World) :
    Calls Tryz.prog 21 #[] w fun e w' =>
      ∃ v, e = .returned v ∧ w'.ownsRow w.heap.size 70 7 v 10 ((firstOps w.heap.size).flatMap OpV.cells) ∧ w'.heap[w.heap.size]? = some (.cells recordCells 52 (0, 0)) ∧ Below w.heap.size w w' ∧ w'.heap.size = w.heap.size + 2 := by
  go_enter Tryz.func21, Tryz.ntmps21
  go_wp2
  go_ret
  have hn : (w.alloc (.cells recordCells 52)).heap.size = w.heap.size + 1 := by simp
  have ho := World.ownsRow_lit (base := w.heap.size) (e := 70) (size := 7) (w.alloc (.cells recordCells 52)) ((firstOps w.heap.size).flatMap OpV.cells).toArray 10 (by rw [hn]; omega) (by decide) rfl
  rw [hn] at ho
  refine ⟨_, rfl, ho, ?_, ((Below.refl _ _).alloc (Nat.le_refl _) _).alloc (by rw [World.size_alloc]; omega) _, by simp⟩
  refine (Below.heap_alloc _ _ _ (by rw [World.size_alloc]; omega)).trans ?_
  exact heap_alloc_new w _

end Go.Proofs.YtjebhbopmfcopaaGreatDoor
