/- Agree, a part. -/
import GoSem.Core.Machine
import Derived.KernelRfl
namespace Go.Proofs.YtjebhbopmfcopaaGreatDoor
abbrev CL:=Option (Nat×Nat)
abbrev Dm:=List UInt8
abbrev DS:=Array Value
abbrev Fi:=List Frame
abbrev Fo:=Array Goroutine
abbrev FV:=List Value
abbrev Gq:=Goroutine
abbrev HA:=World
abbrev HH:=Value
abbrev HM:=ByteArray
theorem HW{α:Sort _}{a b:α}(h:a=b:=by kernel_rfl):a=b:=h
theorem HU{p:Prop}(h:p:=by omega):p:=h
theorem HY{p:Prop}(h:p:=by simp):p:=h
theorem J1{p:Prop}(h:p:=by decide):p:=h
abbrev J2:=@Array.getElem?_eq_some_iff
end Go.Proofs.YtjebhbopmfcopaaGreatDoor
