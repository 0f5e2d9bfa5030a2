/-
  No cell of these rows narrows 'for every input' (looked for: loops, veiled, ifaces, maps, wideKeys, modest, calm, conditions, laid).
  DERIVED. THE GIVEN ROWS OF THIS SEAT. 9 by the template 'for every input the law returns true; each argument reads behind the call as it read before'; 0 by the template 'total and deterministic' (their statements: YthamnebbecmegaaTotals.lean).
  GIVEN WITH THE SEED: the statements are not yours to turn. If you find one false, say at which input.
  Laid BY PROGRAM, IN A SANDBOX (cutbox-rows.mjs): the forced cells as the released guide's own fill.sh prints them over the translation 4c210fbe001a5dfc… (all of the seat's roots in one cut). By AI agents, Wed Nov 11 2026. No macro, syntax, notation, axiom, sorry.
-/
import Derived.Test.YthamnebbecmegaaChecked
import GoSem.Claim
import GoSem.ClaimJoined
import GoSem.ClaimMapViews
import Derived.JoinedTies
import Derived.KernelRfl
namespace Go.Proofs.Ythamnebbecmegaa
/- THE CELL 'sum', in the pinned program and in every row, IS THE sha256 OF THE DUMP (.gsa) THAT YthamnebbecmegaaProg.lean LOADS. Nothing in Lean hashes anything: it is a label: what it is worth is what the hold of that sum in a sandbox is worth. -/
noncomputable def Try.pinned : Pinned := { name := "ythamnebbecmegaa", sum := "4c210fbe001a5dfc6623c18a3749eaa4a7df63140625ebeaa0c04b6c3be8c810", checked := Try.checked }
namespace Rows
def none {H : Type} : Left H := { results := [], args := [] }

/-- 'hackneylaw03.SnapStays': WHATEVER THE INPUT: true; the input reads as it did. -/
def snapStaysSpec : ChangeSpec := { name := "snapStays", fn := fun _ => fun
  | [d1, d2] => { results := [.lit (.bool true)], args := [d1, d2] }
  | _ => none }
def snapStaysRow : OpenClaim := { program := "ythamnebbecmegaa", sum := "4c210fbe001a5dfc6623c18a3749eaa4a7df63140625ebeaa0c04b6c3be8c810", func := "hackney/hackneylaw03.SnapStays", spec := "snapStays", inPlace := ["sync/atomic.StoreUint64", "sync/atomic.LoadUint64", "sync/atomic.CompareAndSwapUint64"], recurses := true, apart := false }
def SnapStaysSaid : Prop := snapStaysRow.holds Try.pinned (OpenSpec.ofChange snapStaysSpec)

/-- ITS FALSE NEIGHBOUR: 'it returns false'. Refute it at one input. -/
def snapStaysWrong : ChangeSpec := { name := "snapStays", fn := fun _ => fun
  | [d1, d2] => { results := [.lit (.bool false)], args := [d1, d2] }
  | _ => none }
def SnapStaysWrongFalsely : Prop := snapStaysRow.holds Try.pinned (OpenSpec.ofChange snapStaysWrong)

/-- 'hackneylaw05.WheelPlays': WHATEVER THE INPUT: true; the input reads as it did. -/
def wheelPlaysSpec : ChangeSpec := { name := "wheelPlays", fn := fun _ => fun
  | [d] => { results := [.lit (.bool true)], args := [d] }
  | _ => none }
def wheelPlaysRow : OpenClaim := { program := "ythamnebbecmegaa", sum := "4c210fbe001a5dfc6623c18a3749eaa4a7df63140625ebeaa0c04b6c3be8c810", func := "hackney/hackneylaw05.WheelPlays", spec := "wheelPlays", inPlace := ["sync/atomic.StoreUint64", "sync/atomic.LoadUint64", "sync/atomic.CompareAndSwapUint64", "maps.clone"], unfollowed := true, recurses := true, apart := false }
def WheelPlaysSaid : Prop := wheelPlaysRow.holds Try.pinned (OpenSpec.ofChange wheelPlaysSpec)

/-- ITS FALSE NEIGHBOUR: 'it returns false'. Refute it at one input. -/
def wheelPlaysWrong : ChangeSpec := { name := "wheelPlays", fn := fun _ => fun
  | [d] => { results := [.lit (.bool false)], args := [d] }
  | _ => none }
def WheelPlaysWrongFalsely : Prop := wheelPlaysRow.holds Try.pinned (OpenSpec.ofChange wheelPlaysWrong)

/-- 'hackneylaw05.WheelOnce': WHATEVER THE INPUT: true; the input reads as it did. -/
def wheelOnceSpec : ChangeSpec := { name := "wheelOnce", fn := fun _ => fun
  | [d1, d2] => { results := [.lit (.bool true)], args := [d1, d2] }
  | _ => none }
def wheelOnceRow : OpenClaim := { program := "ythamnebbecmegaa", sum := "4c210fbe001a5dfc6623c18a3749eaa4a7df63140625ebeaa0c04b6c3be8c810", func := "hackney/hackneylaw05.WheelOnce", spec := "wheelOnce", inPlace := ["sync/atomic.StoreUint64", "sync/atomic.LoadUint64", "sync/atomic.CompareAndSwapUint64"], unfollowed := true, recurses := true, apart := false }
def WheelOnceSaid : Prop := wheelOnceRow.holds Try.pinned (OpenSpec.ofChange wheelOnceSpec)

/-- ITS FALSE NEIGHBOUR: 'it returns false'. Refute it at one input. -/
def wheelOnceWrong : ChangeSpec := { name := "wheelOnce", fn := fun _ => fun
  | [d1, d2] => { results := [.lit (.bool false)], args := [d1, d2] }
  | _ => none }
def WheelOnceWrongFalsely : Prop := wheelOnceRow.holds Try.pinned (OpenSpec.ofChange wheelOnceWrong)

/-- 'hackneylaw07.GuardCatches': WHATEVER THE INPUT: true; the input reads as it did. -/
def guardCatchesSpec : ChangeSpec := { name := "guardCatches", fn := fun _ => fun
  | [d] => { results := [.lit (.bool true)], args := [d] }
  | _ => none }
def guardCatchesRow : OpenClaim := { program := "ythamnebbecmegaa", sum := "4c210fbe001a5dfc6623c18a3749eaa4a7df63140625ebeaa0c04b6c3be8c810", func := "hackney/hackneylaw07.GuardCatches", spec := "guardCatches", inPlace := ["sync/atomic.StoreUint64", "sync/atomic.LoadUint64", "sync/atomic.CompareAndSwapUint64"], unfollowed := true, recurses := true, apart := false }
def GuardCatchesSaid : Prop := guardCatchesRow.holds Try.pinned (OpenSpec.ofChange guardCatchesSpec)

/-- ITS FALSE NEIGHBOUR: 'it returns false'. Refute it at one input. -/
def guardCatchesWrong : ChangeSpec := { name := "guardCatches", fn := fun _ => fun
  | [d] => { results := [.lit (.bool false)], args := [d] }
  | _ => none }
def GuardCatchesWrongFalsely : Prop := guardCatchesRow.holds Try.pinned (OpenSpec.ofChange guardCatchesWrong)

/-- 'hackneylaw07.GuardEnsures': WHATEVER THE INPUT: true; the input reads as it did. -/
def guardEnsuresSpec : ChangeSpec := { name := "guardEnsures", fn := fun _ => fun
  | [d] => { results := [.lit (.bool true)], args := [d] }
  | _ => none }
def guardEnsuresRow : OpenClaim := { program := "ythamnebbecmegaa", sum := "4c210fbe001a5dfc6623c18a3749eaa4a7df63140625ebeaa0c04b6c3be8c810", func := "hackney/hackneylaw07.GuardEnsures", spec := "guardEnsures", inPlace := ["sync/atomic.StoreUint64", "sync/atomic.LoadUint64", "sync/atomic.CompareAndSwapUint64"], unfollowed := true, recurses := true, apart := false }
def GuardEnsuresSaid : Prop := guardEnsuresRow.holds Try.pinned (OpenSpec.ofChange guardEnsuresSpec)

/-- ITS FALSE NEIGHBOUR: 'it returns false'. Refute it at one input. -/
def guardEnsuresWrong : ChangeSpec := { name := "guardEnsures", fn := fun _ => fun
  | [d] => { results := [.lit (.bool false)], args := [d] }
  | _ => none }
def GuardEnsuresWrongFalsely : Prop := guardEnsuresRow.holds Try.pinned (OpenSpec.ofChange guardEnsuresWrong)

/-- 'hackneylaw08.PicksTurn': WHATEVER THE INPUT: true; the input reads as it did. -/
def picksTurnSpec : ChangeSpec := { name := "picksTurn", fn := fun _ => fun
  | [d1, d2, d3] => { results := [.lit (.bool true)], args := [d1, d2, d3] }
  | _ => none }
def picksTurnRow : OpenClaim := { program := "ythamnebbecmegaa", sum := "4c210fbe001a5dfc6623c18a3749eaa4a7df63140625ebeaa0c04b6c3be8c810", func := "hackney/hackneylaw08.PicksTurn", spec := "picksTurn", inPlace := ["sync/atomic.StoreUint64", "sync/atomic.LoadUint64", "sync/atomic.CompareAndSwapUint64"], unfollowed := true, recurses := true, apart := false }
def PicksTurnSaid : Prop := picksTurnRow.holds Try.pinned (OpenSpec.ofChange picksTurnSpec)

/-- ITS FALSE NEIGHBOUR: 'it returns false'. Refute it at one input. -/
def picksTurnWrong : ChangeSpec := { name := "picksTurn", fn := fun _ => fun
  | [d1, d2, d3] => { results := [.lit (.bool false)], args := [d1, d2, d3] }
  | _ => none }
def PicksTurnWrongFalsely : Prop := picksTurnRow.holds Try.pinned (OpenSpec.ofChange picksTurnWrong)

/-- 'hackneylaw08.PicksFair': WHATEVER THE INPUT: true; the input reads as it did. -/
def picksFairSpec : ChangeSpec := { name := "picksFair", fn := fun _ => fun
  | [d1, d2, d3] => { results := [.lit (.bool true)], args := [d1, d2, d3] }
  | _ => none }
def picksFairRow : OpenClaim := { program := "ythamnebbecmegaa", sum := "4c210fbe001a5dfc6623c18a3749eaa4a7df63140625ebeaa0c04b6c3be8c810", func := "hackney/hackneylaw08.PicksFair", spec := "picksFair", inPlace := ["sync/atomic.StoreUint64", "sync/atomic.LoadUint64", "sync/atomic.CompareAndSwapUint64"], unfollowed := true, recurses := true, apart := false }
def PicksFairSaid : Prop := picksFairRow.holds Try.pinned (OpenSpec.ofChange picksFairSpec)

/-- ITS FALSE NEIGHBOUR: 'it returns false'. Refute it at one input. -/
def picksFairWrong : ChangeSpec := { name := "picksFair", fn := fun _ => fun
  | [d1, d2, d3] => { results := [.lit (.bool false)], args := [d1, d2, d3] }
  | _ => none }
def PicksFairWrongFalsely : Prop := picksFairRow.holds Try.pinned (OpenSpec.ofChange picksFairWrong)

/-- 'hackneylaw08.PicksNone': WHATEVER THE INPUT: true; the input reads as it did. -/
def picksNoneSpec : ChangeSpec := { name := "picksNone", fn := fun _ => fun
  | [] => { results := [.lit (.bool true)], args := [] }
  | _ => none }
def picksNoneRow : OpenClaim := { program := "ythamnebbecmegaa", sum := "4c210fbe001a5dfc6623c18a3749eaa4a7df63140625ebeaa0c04b6c3be8c810", func := "hackney/hackneylaw08.PicksNone", spec := "picksNone", inPlace := ["sync/atomic.StoreUint64", "sync/atomic.LoadUint64", "sync/atomic.CompareAndSwapUint64"], unfollowed := true, recurses := true, apart := false }
def PicksNoneSaid : Prop := picksNoneRow.holds Try.pinned (OpenSpec.ofChange picksNoneSpec)

/-- ITS FALSE NEIGHBOUR: 'it returns false'. Refute it at one input. -/
def picksNoneWrong : ChangeSpec := { name := "picksNone", fn := fun _ => fun
  | [] => { results := [.lit (.bool false)], args := [] }
  | _ => none }
def PicksNoneWrongFalsely : Prop := picksNoneRow.holds Try.pinned (OpenSpec.ofChange picksNoneWrong)

/-- 'hackneylaw08.PicksScript': WHATEVER THE INPUT: true; the input reads as it did. -/
def picksScriptSpec : ChangeSpec := { name := "picksScript", fn := fun _ => fun
  | [d1, d2] => { results := [.lit (.bool true)], args := [d1, d2] }
  | _ => none }
def picksScriptRow : OpenClaim := { program := "ythamnebbecmegaa", sum := "4c210fbe001a5dfc6623c18a3749eaa4a7df63140625ebeaa0c04b6c3be8c810", func := "hackney/hackneylaw08.PicksScript", spec := "picksScript", inPlace := ["sync/atomic.StoreUint64", "sync/atomic.LoadUint64", "sync/atomic.CompareAndSwapUint64"], unfollowed := true, recurses := true, apart := false }
def PicksScriptSaid : Prop := picksScriptRow.holds Try.pinned (OpenSpec.ofChange picksScriptSpec)

/-- ITS FALSE NEIGHBOUR: 'it returns false'. Refute it at one input. -/
def picksScriptWrong : ChangeSpec := { name := "picksScript", fn := fun _ => fun
  | [d1, d2] => { results := [.lit (.bool false)], args := [d1, d2] }
  | _ => none }
def PicksScriptWrongFalsely : Prop := picksScriptRow.holds Try.pinned (OpenSpec.ofChange picksScriptWrong)

/- THE SECOND FORM. 'bulk': how many values and letters a reading holds, each counted each time it is reached (what is shared counts as often as it is met; a slice's spare places count too). A statement '..UptoSaid' is the law's where the arguments, and the package variables that the reading takes, are together of bulk at most 1048576: NARROWER than '..Said'. Prove '..Said' where nothing that the law and all that it calls make is longer than what came in: it says more and counts as full. Else prove '..UptoSaid'. A law counts once. -/
mutual
def uptoBulk {H : Type} : DataW H → Nat
  | .lit (.string bytes) => bytes.length + 1
  | .lit _ => 1
  | .nil => 1
  | .ptr d => uptoBulk d + 1
  | .slice elems spare => uptoBulkAll elems + uptoBulkAll spare + 1
  | .agg parts => uptoBulkAll parts + 1
  | .iface _ d => uptoBulk d + 1
  | .map entries => uptoBulkEntries entries + 1
  | .held _ => 1
def uptoBulkAll {H : Type} : List (DataW H) → Nat
  | [] => 0
  | d :: r => uptoBulk d + uptoBulkAll r
def uptoBulkEntries {H : Type} : List (Lit × DataW H) → Nat
  | [] => 0
  | x :: r => uptoBulkEntry x + uptoBulkEntries r
def uptoBulkEntry {H : Type} : Lit × DataW H → Nat
  | (.string bytes, d) => bytes.length + uptoBulk d + 1
  | (_, d) => uptoBulk d + 1
 end
def uptoSmall : (H : Type) → List (DataW H) → Bool := fun _ ds => decide (uptoBulkAll ds ≤ 1048576)
def OpenSpec.upto (s : _root_.Go.ChangeSpec) : _root_.Go.OpenSpec := { _root_.Go.OpenSpec.ofChange s with cond := some uptoSmall }

/-- 'hackneylaw03.SnapStays', WHERE WHAT IT READS IS OF BULK AT MOST 1048576: true; the input reads as it did. -/
def snapStaysUptoRow : OpenClaim := { program := "ythamnebbecmegaa", sum := "4c210fbe001a5dfc6623c18a3749eaa4a7df63140625ebeaa0c04b6c3be8c810", func := "hackney/hackneylaw03.SnapStays", spec := "snapStays", inPlace := ["sync/atomic.StoreUint64", "sync/atomic.LoadUint64", "sync/atomic.CompareAndSwapUint64"], recurses := true, apart := false, narrowed := true }
def SnapStaysUptoSaid : Prop := snapStaysUptoRow.holds Try.pinned (OpenSpec.upto snapStaysSpec)

/-- 'hackneylaw05.WheelPlays', WHERE WHAT IT READS IS OF BULK AT MOST 1048576: true; the input reads as it did. -/
def wheelPlaysUptoRow : OpenClaim := { program := "ythamnebbecmegaa", sum := "4c210fbe001a5dfc6623c18a3749eaa4a7df63140625ebeaa0c04b6c3be8c810", func := "hackney/hackneylaw05.WheelPlays", spec := "wheelPlays", inPlace := ["sync/atomic.StoreUint64", "sync/atomic.LoadUint64", "sync/atomic.CompareAndSwapUint64", "maps.clone"], unfollowed := true, recurses := true, apart := false, narrowed := true }
def WheelPlaysUptoSaid : Prop := wheelPlaysUptoRow.holds Try.pinned (OpenSpec.upto wheelPlaysSpec)

/-- 'hackneylaw05.WheelOnce', WHERE WHAT IT READS IS OF BULK AT MOST 1048576: true; the input reads as it did. -/
def wheelOnceUptoRow : OpenClaim := { program := "ythamnebbecmegaa", sum := "4c210fbe001a5dfc6623c18a3749eaa4a7df63140625ebeaa0c04b6c3be8c810", func := "hackney/hackneylaw05.WheelOnce", spec := "wheelOnce", inPlace := ["sync/atomic.StoreUint64", "sync/atomic.LoadUint64", "sync/atomic.CompareAndSwapUint64"], unfollowed := true, recurses := true, apart := false, narrowed := true }
def WheelOnceUptoSaid : Prop := wheelOnceUptoRow.holds Try.pinned (OpenSpec.upto wheelOnceSpec)

/-- 'hackneylaw07.GuardCatches', WHERE WHAT IT READS IS OF BULK AT MOST 1048576: true; the input reads as it did. -/
def guardCatchesUptoRow : OpenClaim := { program := "ythamnebbecmegaa", sum := "4c210fbe001a5dfc6623c18a3749eaa4a7df63140625ebeaa0c04b6c3be8c810", func := "hackney/hackneylaw07.GuardCatches", spec := "guardCatches", inPlace := ["sync/atomic.StoreUint64", "sync/atomic.LoadUint64", "sync/atomic.CompareAndSwapUint64"], unfollowed := true, recurses := true, apart := false, narrowed := true }
def GuardCatchesUptoSaid : Prop := guardCatchesUptoRow.holds Try.pinned (OpenSpec.upto guardCatchesSpec)

/-- 'hackneylaw07.GuardEnsures', WHERE WHAT IT READS IS OF BULK AT MOST 1048576: true; the input reads as it did. -/
def guardEnsuresUptoRow : OpenClaim := { program := "ythamnebbecmegaa", sum := "4c210fbe001a5dfc6623c18a3749eaa4a7df63140625ebeaa0c04b6c3be8c810", func := "hackney/hackneylaw07.GuardEnsures", spec := "guardEnsures", inPlace := ["sync/atomic.StoreUint64", "sync/atomic.LoadUint64", "sync/atomic.CompareAndSwapUint64"], unfollowed := true, recurses := true, apart := false, narrowed := true }
def GuardEnsuresUptoSaid : Prop := guardEnsuresUptoRow.holds Try.pinned (OpenSpec.upto guardEnsuresSpec)

/-- 'hackneylaw08.PicksTurn', WHERE WHAT IT READS IS OF BULK AT MOST 1048576: true; the input reads as it did. -/
def picksTurnUptoRow : OpenClaim := { program := "ythamnebbecmegaa", sum := "4c210fbe001a5dfc6623c18a3749eaa4a7df63140625ebeaa0c04b6c3be8c810", func := "hackney/hackneylaw08.PicksTurn", spec := "picksTurn", inPlace := ["sync/atomic.StoreUint64", "sync/atomic.LoadUint64", "sync/atomic.CompareAndSwapUint64"], unfollowed := true, recurses := true, apart := false, narrowed := true }
def PicksTurnUptoSaid : Prop := picksTurnUptoRow.holds Try.pinned (OpenSpec.upto picksTurnSpec)

/-- 'hackneylaw08.PicksFair', WHERE WHAT IT READS IS OF BULK AT MOST 1048576: true; the input reads as it did. -/
def picksFairUptoRow : OpenClaim := { program := "ythamnebbecmegaa", sum := "4c210fbe001a5dfc6623c18a3749eaa4a7df63140625ebeaa0c04b6c3be8c810", func := "hackney/hackneylaw08.PicksFair", spec := "picksFair", inPlace := ["sync/atomic.StoreUint64", "sync/atomic.LoadUint64", "sync/atomic.CompareAndSwapUint64"], unfollowed := true, recurses := true, apart := false, narrowed := true }
def PicksFairUptoSaid : Prop := picksFairUptoRow.holds Try.pinned (OpenSpec.upto picksFairSpec)

/-- 'hackneylaw08.PicksNone', WHERE WHAT IT READS IS OF BULK AT MOST 1048576: true; the input reads as it did. -/
def picksNoneUptoRow : OpenClaim := { program := "ythamnebbecmegaa", sum := "4c210fbe001a5dfc6623c18a3749eaa4a7df63140625ebeaa0c04b6c3be8c810", func := "hackney/hackneylaw08.PicksNone", spec := "picksNone", inPlace := ["sync/atomic.StoreUint64", "sync/atomic.LoadUint64", "sync/atomic.CompareAndSwapUint64"], unfollowed := true, recurses := true, apart := false, narrowed := true }
def PicksNoneUptoSaid : Prop := picksNoneUptoRow.holds Try.pinned (OpenSpec.upto picksNoneSpec)

/-- 'hackneylaw08.PicksScript', WHERE WHAT IT READS IS OF BULK AT MOST 1048576: true; the input reads as it did. -/
def picksScriptUptoRow : OpenClaim := { program := "ythamnebbecmegaa", sum := "4c210fbe001a5dfc6623c18a3749eaa4a7df63140625ebeaa0c04b6c3be8c810", func := "hackney/hackneylaw08.PicksScript", spec := "picksScript", inPlace := ["sync/atomic.StoreUint64", "sync/atomic.LoadUint64", "sync/atomic.CompareAndSwapUint64"], unfollowed := true, recurses := true, apart := false, narrowed := true }
def PicksScriptUptoSaid : Prop := picksScriptUptoRow.holds Try.pinned (OpenSpec.upto picksScriptSpec)

end Rows
end Go.Proofs.Ythamnebbecmegaa
