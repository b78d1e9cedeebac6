/-
  No cell of these rows narrows 'for every input' (looked for: loops, veiled, ifaces, maps, wideKeys, modest, calm, conditions, laid).
  DERIVED. THE GIVEN ROWS OF THIS SEAT. 3 by the template 'for every input the law returns true; each argument reads behind the call as it read before'; 0 by the template 'total and deterministic' (their statements: YtpogcfdmkeebmabTotals.lean).
  GIVEN WITH THE SEED: the statements are not yours to turn. If you find one false, say at which input.
  Laid BY PROGRAM, IN A SANDBOX (cutbox-rows.mjs): the forced cells as the released guide's own fill.sh prints them over the translation 222565138e01da41… (all of the seat's roots in one cut). By AI agents, Wed Nov 11 2026. No macro, syntax, notation, axiom, sorry.
-/
import Derived.Test.YtpogcfdmkeebmabChecked
import GoSem.Claim
import GoSem.ClaimJoined
import GoSem.ClaimMapViews
import Derived.JoinedTies
import Derived.KernelRfl
namespace Go.Proofs.Ytpogcfdmkeebmab
/- THE CELL 'sum', in the pinned program and in every row, IS THE sha256 OF THE DUMP (.gsa) THAT YtpogcfdmkeebmabProg.lean LOADS. Nothing in Lean hashes anything: it is a label: what it is worth is what the hold of that sum in a sandbox is worth. -/
noncomputable def Try.pinned : Pinned := { name := "ytpogcfdmkeebmab", sum := "222565138e01da41ac60a7b5f9fb58922e4804a6355156caeeecc20e5927e616", checked := Try.checked }
namespace Rows
def none {H : Type} : Left H := { results := [], args := [] }

/-- 'taskmilllaw.SyncOnlyOnce': WHATEVER THE INPUT: true; the input reads as it did. -/
def syncOnlyOnceSpec : ChangeSpec := { name := "syncOnlyOnce", fn := fun _ => fun
  | [d1, d2] => { results := [.lit (.bool true)], args := [d1, d2] }
  | _ => none }
def syncOnlyOnceRow : OpenClaim := { program := "ytpogcfdmkeebmab", sum := "222565138e01da41ac60a7b5f9fb58922e4804a6355156caeeecc20e5927e616", func := "taskmill/taskmilllaw.SyncOnlyOnce", spec := "syncOnlyOnce", unfollowed := true, recurses := true, apart := false }
def SyncOnlyOnceSaid : Prop := syncOnlyOnceRow.holds Try.pinned (OpenSpec.ofChange syncOnlyOnceSpec)

/-- ITS FALSE NEIGHBOUR: 'it returns false'. Refute it at one input. -/
def syncOnlyOnceWrong : ChangeSpec := { name := "syncOnlyOnce", fn := fun _ => fun
  | [d1, d2] => { results := [.lit (.bool false)], args := [d1, d2] }
  | _ => none }
def SyncOnlyOnceWrongFalsely : Prop := syncOnlyOnceRow.holds Try.pinned (OpenSpec.ofChange syncOnlyOnceWrong)

/-- 'taskmilllaw.SyncRounds': WHATEVER THE INPUT: true; the input reads as it did. -/
def syncRoundsSpec : ChangeSpec := { name := "syncRounds", fn := fun _ => fun
  | [d1, d2] => { results := [.lit (.bool true)], args := [d1, d2] }
  | _ => none }
def syncRoundsRow : OpenClaim := { program := "ytpogcfdmkeebmab", sum := "222565138e01da41ac60a7b5f9fb58922e4804a6355156caeeecc20e5927e616", func := "taskmill/taskmilllaw.SyncRounds", spec := "syncRounds", unfollowed := true, recurses := true, apart := false }
def SyncRoundsSaid : Prop := syncRoundsRow.holds Try.pinned (OpenSpec.ofChange syncRoundsSpec)

/-- ITS FALSE NEIGHBOUR: 'it returns false'. Refute it at one input. -/
def syncRoundsWrong : ChangeSpec := { name := "syncRounds", fn := fun _ => fun
  | [d1, d2] => { results := [.lit (.bool false)], args := [d1, d2] }
  | _ => none }
def SyncRoundsWrongFalsely : Prop := syncRoundsRow.holds Try.pinned (OpenSpec.ofChange syncRoundsWrong)

/-- 'taskmilllaw.SyncMutex': WHATEVER THE INPUT: true; the input reads as it did. -/
def syncMutexSpec : ChangeSpec := { name := "syncMutex", fn := fun _ => fun
  | [d] => { results := [.lit (.bool true)], args := [d] }
  | _ => none }
def syncMutexRow : OpenClaim := { program := "ytpogcfdmkeebmab", sum := "222565138e01da41ac60a7b5f9fb58922e4804a6355156caeeecc20e5927e616", func := "taskmill/taskmilllaw.SyncMutex", spec := "syncMutex", unfollowed := true, recurses := true, apart := false }
def SyncMutexSaid : Prop := syncMutexRow.holds Try.pinned (OpenSpec.ofChange syncMutexSpec)

/-- ITS FALSE NEIGHBOUR: 'it returns false'. Refute it at one input. -/
def syncMutexWrong : ChangeSpec := { name := "syncMutex", fn := fun _ => fun
  | [d] => { results := [.lit (.bool false)], args := [d] }
  | _ => none }
def SyncMutexWrongFalsely : Prop := syncMutexRow.holds Try.pinned (OpenSpec.ofChange syncMutexWrong)

/- THE SECOND FORM. 'bulk': how many values and letters a reading holds, each counted each time it is reached (what is shared counts as often as it is met; a slice's spare places count too). A statement '..UptoSaid' is the law's where the arguments, and the package variables that the reading takes, are together of bulk at most 1048576: NARROWER than '..Said'. Prove '..Said' where nothing that the law and all that it calls make is longer than what came in: it says more and counts as full. Else prove '..UptoSaid'. A law counts once. -/
mutual
def uptoBulk {H : Type} : DataW H → Nat
  | .lit (.string bytes) => bytes.length + 1
  | .lit _ => 1
  | .nil => 1
  | .ptr d => uptoBulk d + 1
  | .slice elems spare => uptoBulkAll elems + uptoBulkAll spare + 1
  | .agg parts => uptoBulkAll parts + 1
  | .iface _ d => uptoBulk d + 1
  | .map entries => uptoBulkEntries entries + 1
  | .held _ => 1
def uptoBulkAll {H : Type} : List (DataW H) → Nat
  | [] => 0
  | d :: r => uptoBulk d + uptoBulkAll r
def uptoBulkEntries {H : Type} : List (Lit × DataW H) → Nat
  | [] => 0
  | x :: r => uptoBulkEntry x + uptoBulkEntries r
def uptoBulkEntry {H : Type} : Lit × DataW H → Nat
  | (.string bytes, d) => bytes.length + uptoBulk d + 1
  | (_, d) => uptoBulk d + 1
 end
def uptoSmall : (H : Type) → List (DataW H) → Bool := fun _ ds => decide (uptoBulkAll ds ≤ 1048576)
def OpenSpec.upto (s : _root_.Go.ChangeSpec) : _root_.Go.OpenSpec := { _root_.Go.OpenSpec.ofChange s with cond := some uptoSmall }

/-- 'taskmilllaw.SyncOnlyOnce', WHERE WHAT IT READS IS OF BULK AT MOST 1048576: true; the input reads as it did. -/
def syncOnlyOnceUptoRow : OpenClaim := { program := "ytpogcfdmkeebmab", sum := "222565138e01da41ac60a7b5f9fb58922e4804a6355156caeeecc20e5927e616", func := "taskmill/taskmilllaw.SyncOnlyOnce", spec := "syncOnlyOnce", unfollowed := true, recurses := true, apart := false, narrowed := true }
def SyncOnlyOnceUptoSaid : Prop := syncOnlyOnceUptoRow.holds Try.pinned (OpenSpec.upto syncOnlyOnceSpec)

/-- 'taskmilllaw.SyncRounds', WHERE WHAT IT READS IS OF BULK AT MOST 1048576: true; the input reads as it did. -/
def syncRoundsUptoRow : OpenClaim := { program := "ytpogcfdmkeebmab", sum := "222565138e01da41ac60a7b5f9fb58922e4804a6355156caeeecc20e5927e616", func := "taskmill/taskmilllaw.SyncRounds", spec := "syncRounds", unfollowed := true, recurses := true, apart := false, narrowed := true }
def SyncRoundsUptoSaid : Prop := syncRoundsUptoRow.holds Try.pinned (OpenSpec.upto syncRoundsSpec)

/-- 'taskmilllaw.SyncMutex', WHERE WHAT IT READS IS OF BULK AT MOST 1048576: true; the input reads as it did. -/
def syncMutexUptoRow : OpenClaim := { program := "ytpogcfdmkeebmab", sum := "222565138e01da41ac60a7b5f9fb58922e4804a6355156caeeecc20e5927e616", func := "taskmill/taskmilllaw.SyncMutex", spec := "syncMutex", unfollowed := true, recurses := true, apart := false, narrowed := true }
def SyncMutexUptoSaid : Prop := syncMutexUptoRow.holds Try.pinned (OpenSpec.upto syncMutexSpec)

end Rows
end Go.Proofs.Ytpogcfdmkeebmab
