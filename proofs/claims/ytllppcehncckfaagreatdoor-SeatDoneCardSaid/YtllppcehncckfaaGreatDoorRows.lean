/-
  NARROWER THAN 'FOR EVERY INPUT', by the rows' own cells (each row's printed sentence says how): SeatDone: laid · SeatPulls: laid · SeatOfNothing: laid.
  DERIVED. THE GIVEN ROWS OF THIS SEAT. 3 by the template 'for every input the law returns true; each argument reads behind the call as it read before'; 0 by the template 'total and deterministic' (their statements: YtllppcehncckfaaGreatDoorTotals.lean).
  GIVEN WITH THE SEED: the statements are not yours to turn. If you find one false, say at which input.
  Laid BY PROGRAM, IN A SANDBOX (cutbox-rows.mjs): the forced cells as the released guide's own fill.sh prints them over the translation 47720f4e26ae5315… (all of the seat's roots in one cut). By AI agents, Wed Nov 11 2026. No macro, syntax, notation, axiom, sorry.
-/
import Derived.Test.YtllppcehncckfaaGreatDoorChecked
import GoSem.Claim
import GoSem.ClaimJoined
import GoSem.ClaimMapViews
import Derived.JoinedTies
import Derived.KernelRfl
namespace Go.Proofs.YtllppcehncckfaaGreatDoor
/- THE CELL 'sum', in the pinned program and in every row, IS THE sha256 OF THE DUMP (.gsa) THAT YtllppcehncckfaaGreatDoorProg.lean LOADS. Nothing in Lean hashes anything: it is a label: what it is worth is what the hold of that sum in a sandbox is worth. -/
noncomputable def Tryz.pinned : Pinned := { name := "ytllppcehncckfaagreatdoor", sum := "47720f4e26ae5315922dac8ec42d461b114478f10e0a214f9ab0487359b97fe2", checked := Tryz.checked }
namespace Rows
def none {H : Type} : Left H := { results := [], args := [] }

/- WHAT THE LISTED PACKAGE-LEVEL VARIABLES READ AS WHEN THE CALL BEGINS. Each datum BY PROGRAM (the guide's laid-datum.mjs) off the statement by which the dump's own 'gosem.cut.vars' lays the variable. In a bare row this is a premise. The card (YtllppcehncckfaaGreatDoorCards.lean) ties it to the program's text. -/
def laid_satrapy_octet_lowSums {H : Type} : DataW H := .agg [.lit (.int .u32 0), .lit (.int .u32 1996959894), .lit (.int .u32 3993919788), .lit (.int .u32 2567524794), .lit (.int .u32 124634137), .lit (.int .u32 1886057615), .lit (.int .u32 3915621685), .lit (.int .u32 2657392035), .lit (.int .u32 249268274), .lit (.int .u32 2044508324), .lit (.int .u32 3772115230), .lit (.int .u32 2547177864), .lit (.int .u32 162941995), .lit (.int .u32 2125561021), .lit (.int .u32 3887607047), .lit (.int .u32 2428444049)]
def laid_satrapy_octet_highSums {H : Type} : DataW H := .agg [.lit (.int .u32 0), .lit (.int .u32 498536548), .lit (.int .u32 997073096), .lit (.int .u32 651767980), .lit (.int .u32 1994146192), .lit (.int .u32 1802195444), .lit (.int .u32 1303535960), .lit (.int .u32 1342533948), .lit (.int .u32 3988292384), .lit (.int .u32 4027552580), .lit (.int .u32 3604390888), .lit (.int .u32 3412177804), .lit (.int .u32 2607071920), .lit (.int .u32 2262029012), .lit (.int .u32 2685067896), .lit (.int .u32 3183342108)]

/-- 'satrapylaw18.SeatDone': WHATEVER THE INPUT: true; the input reads as it did. -/
def seatDoneSpec : ChangeSpec := { name := "seatDone", fn := fun _ => fun
  | [d1, d2] => { results := [.lit (.bool true)], args := [d1, d2] }
  | _ => none }
def seatDoneRow : OpenClaim := { program := "ytllppcehncckfaagreatdoor", sum := "47720f4e26ae5315922dac8ec42d461b114478f10e0a214f9ab0487359b97fe2", func := "satrapy/satrapylaw18.SeatDone", spec := "seatDone", inPlace := ["slices.overlaps[satrapy/api.Zone]"], unfollowed := true, recurses := true, named := ["satrapy/octet.lowSums", "satrapy/octet.highSums"], apart := false, laid := [("satrapy/octet.lowSums", laid_satrapy_octet_lowSums), ("satrapy/octet.highSums", laid_satrapy_octet_highSums)] }
def SeatDoneSaid : Prop := seatDoneRow.holds Tryz.pinned (OpenSpec.ofChange seatDoneSpec)

/-- ITS FALSE NEIGHBOUR: 'it returns false'. Refute it at one input. -/
def seatDoneWrong : ChangeSpec := { name := "seatDone", fn := fun _ => fun
  | [d1, d2] => { results := [.lit (.bool false)], args := [d1, d2] }
  | _ => none }
def SeatDoneWrongFalsely : Prop := seatDoneRow.holds Tryz.pinned (OpenSpec.ofChange seatDoneWrong)

/-- 'satrapylaw18.SeatPulls': WHATEVER THE INPUT: true; the input reads as it did. -/
def seatPullsSpec : ChangeSpec := { name := "seatPulls", fn := fun _ => fun
  | [d1, d2] => { results := [.lit (.bool true)], args := [d1, d2] }
  | _ => none }
def seatPullsRow : OpenClaim := { program := "ytllppcehncckfaagreatdoor", sum := "47720f4e26ae5315922dac8ec42d461b114478f10e0a214f9ab0487359b97fe2", func := "satrapy/satrapylaw18.SeatPulls", spec := "seatPulls", inPlace := ["slices.overlaps[satrapy/api.Zone]"], unfollowed := true, recurses := true, named := ["satrapy/octet.lowSums", "satrapy/octet.highSums"], apart := false, laid := [("satrapy/octet.lowSums", laid_satrapy_octet_lowSums), ("satrapy/octet.highSums", laid_satrapy_octet_highSums)] }
def SeatPullsSaid : Prop := seatPullsRow.holds Tryz.pinned (OpenSpec.ofChange seatPullsSpec)

/-- ITS FALSE NEIGHBOUR: 'it returns false'. Refute it at one input. -/
def seatPullsWrong : ChangeSpec := { name := "seatPulls", fn := fun _ => fun
  | [d1, d2] => { results := [.lit (.bool false)], args := [d1, d2] }
  | _ => none }
def SeatPullsWrongFalsely : Prop := seatPullsRow.holds Tryz.pinned (OpenSpec.ofChange seatPullsWrong)

/-- 'satrapylaw18.SeatOfNothing': WHATEVER THE INPUT: true; the input reads as it did. -/
def seatOfNothingSpec : ChangeSpec := { name := "seatOfNothing", fn := fun _ => fun
  | [d1, d2, d3] => { results := [.lit (.bool true)], args := [d1, d2, d3] }
  | _ => none }
def seatOfNothingRow : OpenClaim := { program := "ytllppcehncckfaagreatdoor", sum := "47720f4e26ae5315922dac8ec42d461b114478f10e0a214f9ab0487359b97fe2", func := "satrapy/satrapylaw18.SeatOfNothing", spec := "seatOfNothing", inPlace := ["slices.overlaps[satrapy/api.Zone]"], unfollowed := true, recurses := true, named := ["satrapy/octet.lowSums", "satrapy/octet.highSums"], apart := false, laid := [("satrapy/octet.lowSums", laid_satrapy_octet_lowSums), ("satrapy/octet.highSums", laid_satrapy_octet_highSums)] }
def SeatOfNothingSaid : Prop := seatOfNothingRow.holds Tryz.pinned (OpenSpec.ofChange seatOfNothingSpec)

/-- ITS FALSE NEIGHBOUR: 'it returns false'. Refute it at one input. -/
def seatOfNothingWrong : ChangeSpec := { name := "seatOfNothing", fn := fun _ => fun
  | [d1, d2, d3] => { results := [.lit (.bool false)], args := [d1, d2, d3] }
  | _ => none }
def SeatOfNothingWrongFalsely : Prop := seatOfNothingRow.holds Tryz.pinned (OpenSpec.ofChange seatOfNothingWrong)

/- THE SECOND FORM. 'bulk': how many values and letters a reading holds, each counted each time it is reached (what is shared counts as often as it is met; a slice's spare places count too). A statement '..UptoSaid' is the law's where the arguments, and the package variables that the reading takes, are together of bulk at most 1048576: NARROWER than '..Said'. Prove '..Said' where nothing that the law and all that it calls make is longer than what came in: it says more and counts as full. Else prove '..UptoSaid'. A law counts once. -/
mutual
def uptoBulk {H : Type} : DataW H → Nat
  | .lit (.string bytes) => bytes.length + 1
  | .lit _ => 1
  | .nil => 1
  | .ptr d => uptoBulk d + 1
  | .slice elems spare => uptoBulkAll elems + uptoBulkAll spare + 1
  | .agg parts => uptoBulkAll parts + 1
  | .iface _ d => uptoBulk d + 1
  | .map entries => uptoBulkEntries entries + 1
  | .held _ => 1
def uptoBulkAll {H : Type} : List (DataW H) → Nat
  | [] => 0
  | d :: r => uptoBulk d + uptoBulkAll r
def uptoBulkEntries {H : Type} : List (Lit × DataW H) → Nat
  | [] => 0
  | x :: r => uptoBulkEntry x + uptoBulkEntries r
def uptoBulkEntry {H : Type} : Lit × DataW H → Nat
  | (.string bytes, d) => bytes.length + uptoBulk d + 1
  | (_, d) => uptoBulk d + 1
 end
def uptoSmall : (H : Type) → List (DataW H) → Bool := fun _ ds => decide (uptoBulkAll ds ≤ 1048576)
def OpenSpec.upto (s : _root_.Go.ChangeSpec) : _root_.Go.OpenSpec := { _root_.Go.OpenSpec.ofChange s with cond := some uptoSmall }

/-- 'satrapylaw18.SeatDone', WHERE WHAT IT READS IS OF BULK AT MOST 1048576: true; the input reads as it did. -/
def seatDoneUptoRow : OpenClaim := { program := "ytllppcehncckfaagreatdoor", sum := "47720f4e26ae5315922dac8ec42d461b114478f10e0a214f9ab0487359b97fe2", func := "satrapy/satrapylaw18.SeatDone", spec := "seatDone", inPlace := ["slices.overlaps[satrapy/api.Zone]"], unfollowed := true, recurses := true, named := ["satrapy/octet.lowSums", "satrapy/octet.highSums"], apart := false, laid := [("satrapy/octet.lowSums", laid_satrapy_octet_lowSums), ("satrapy/octet.highSums", laid_satrapy_octet_highSums)], narrowed := true }
def SeatDoneUptoSaid : Prop := seatDoneUptoRow.holds Tryz.pinned (OpenSpec.upto seatDoneSpec)

/-- 'satrapylaw18.SeatPulls', WHERE WHAT IT READS IS OF BULK AT MOST 1048576: true; the input reads as it did. -/
def seatPullsUptoRow : OpenClaim := { program := "ytllppcehncckfaagreatdoor", sum := "47720f4e26ae5315922dac8ec42d461b114478f10e0a214f9ab0487359b97fe2", func := "satrapy/satrapylaw18.SeatPulls", spec := "seatPulls", inPlace := ["slices.overlaps[satrapy/api.Zone]"], unfollowed := true, recurses := true, named := ["satrapy/octet.lowSums", "satrapy/octet.highSums"], apart := false, laid := [("satrapy/octet.lowSums", laid_satrapy_octet_lowSums), ("satrapy/octet.highSums", laid_satrapy_octet_highSums)], narrowed := true }
def SeatPullsUptoSaid : Prop := seatPullsUptoRow.holds Tryz.pinned (OpenSpec.upto seatPullsSpec)

/-- 'satrapylaw18.SeatOfNothing', WHERE WHAT IT READS IS OF BULK AT MOST 1048576: true; the input reads as it did. -/
def seatOfNothingUptoRow : OpenClaim := { program := "ytllppcehncckfaagreatdoor", sum := "47720f4e26ae5315922dac8ec42d461b114478f10e0a214f9ab0487359b97fe2", func := "satrapy/satrapylaw18.SeatOfNothing", spec := "seatOfNothing", inPlace := ["slices.overlaps[satrapy/api.Zone]"], unfollowed := true, recurses := true, named := ["satrapy/octet.lowSums", "satrapy/octet.highSums"], apart := false, laid := [("satrapy/octet.lowSums", laid_satrapy_octet_lowSums), ("satrapy/octet.highSums", laid_satrapy_octet_highSums)], narrowed := true }
def SeatOfNothingUptoSaid : Prop := seatOfNothingUptoRow.holds Tryz.pinned (OpenSpec.upto seatOfNothingSpec)

end Rows
end Go.Proofs.YtllppcehncckfaaGreatDoor
