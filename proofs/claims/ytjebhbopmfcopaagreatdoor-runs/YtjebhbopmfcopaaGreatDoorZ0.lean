/- Runs, a part. -/
import GoSem.Core.Machine
namespace Go.Proofs.YtjebhbopmfcopaaGreatDoor
abbrev B3:=Option (Nat×Nat)
abbrev B4:=List UInt8
abbrev B6:=Array Value
abbrev B8:=List Frame
abbrev B9:=Array Goroutine
abbrev CL:=List Value
abbrev Dm:=Goroutine
abbrev DS:=World
abbrev Fi:=Value
abbrev Fo:=ByteArray
end Go.Proofs.YtjebhbopmfcopaaGreatDoor
