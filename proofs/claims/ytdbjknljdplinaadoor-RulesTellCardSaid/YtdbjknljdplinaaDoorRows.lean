/-
  NARROWER THAN 'FOR EVERY INPUT', by the rows' own cells (each row's printed sentence says how): RulesTell: laid · RulesHold: laid.
  DERIVED. THE GIVEN ROWS OF THIS SEAT. 2 by the template 'for every input the law returns true; each argument reads behind the call as it read before'; 0 by the template 'total and deterministic' (their statements: YtdbjknljdplinaaDoorTotals.lean).
  GIVEN WITH THE SEED: the statements are not yours to turn. If you find one false, say at which input.
  Laid BY PROGRAM, IN A SANDBOX (cutbox-rows.mjs): the forced cells as the released guide's own fill.sh prints them over the translation 1d906ae32f6001dc… (all of the seat's roots in one cut). By AI agents, Wed Nov 11 2026. No macro, syntax, notation, axiom, sorry.
-/
import Derived.Test.YtdbjknljdplinaaDoorChecked
import GoSem.Claim
import GoSem.ClaimJoined
import GoSem.ClaimMapViews
import Derived.JoinedTies
import Derived.KernelRfl
namespace Go.Proofs.YtdbjknljdplinaaDoor
/- THE CELL 'sum', in the pinned program and in every row, IS THE sha256 OF THE DUMP (.gsa) THAT YtdbjknljdplinaaDoorProg.lean LOADS. Nothing in Lean hashes anything: it is a label: what it is worth is what the hold of that sum in a sandbox is worth. -/
noncomputable def Tryd.pinned : Pinned := { name := "ytdbjknljdplinaadoor", sum := "1d906ae32f6001dc570d84d00b8a23660e2efcae64398f97537c6606040a6d27", checked := Tryd.checked }
namespace Rows
def none {H : Type} : Left H := { results := [], args := [] }

/- WHAT THE LISTED PACKAGE-LEVEL VARIABLES READ AS WHEN THE CALL BEGINS. Each datum BY PROGRAM (the guide's laid-datum.mjs) off the statement by which the dump's own 'gosem.cut.vars' lays the variable. In a bare row this is a premise. The card (YtdbjknljdplinaaDoorCards.lean) ties it to the program's text. -/
def laid_rematch_rules_kinds {H : Type} : DataW H := .agg [.agg [.lit (.int .i64 0), .lit (.int .i64 0), .lit (.int .i64 0), .lit (.int .i64 0), .lit (.int .i64 0), .lit (.int .i64 0), .lit (.int .i64 0), .lit (.int .i64 0), .lit (.int .i64 0), .lit (.int .u8 0), .lit (.bool false)], .agg [.lit (.int .i64 60), .lit (.int .i64 0), .lit (.int .i64 0), .lit (.int .i64 0), .lit (.int .i64 0), .lit (.int .i64 100), .lit (.int .i64 30), .lit (.int .i64 5), .lit (.int .i64 0), .lit (.int .u8 0), .lit (.bool false)], .agg [.lit (.int .i64 10), .lit (.int .i64 3), .lit (.int .i64 1), .lit (.int .i64 1), .lit (.int .i64 4), .lit (.int .i64 10), .lit (.int .i64 6), .lit (.int .i64 3), .lit (.int .i64 0), .lit (.int .u8 1), .lit (.bool false)], .agg [.lit (.int .i64 20), .lit (.int .i64 2), .lit (.int .i64 1), .lit (.int .i64 4), .lit (.int .i64 4), .lit (.int .i64 20), .lit (.int .i64 8), .lit (.int .i64 4), .lit (.int .i64 0), .lit (.int .u8 5), .lit (.bool false)], .agg [.lit (.int .i64 12), .lit (.int .i64 2), .lit (.int .i64 4), .lit (.int .i64 3), .lit (.int .i64 6), .lit (.int .i64 25), .lit (.int .i64 10), .lit (.int .i64 5), .lit (.int .i64 1), .lit (.int .u8 5), .lit (.bool true)], .agg [.lit (.int .i64 40), .lit (.int .i64 0), .lit (.int .i64 0), .lit (.int .i64 0), .lit (.int .i64 0), .lit (.int .i64 40), .lit (.int .i64 12), .lit (.int .i64 3), .lit (.int .i64 0), .lit (.int .u8 2), .lit (.bool false)]]

/-- 'rematchlaw09.RulesTell': WHATEVER THE INPUT: true; the input reads as it did. -/
def rulesTellSpec : ChangeSpec := { name := "rulesTell", fn := fun _ => fun
  | [d1, d2] => { results := [.lit (.bool true)], args := [d1, d2] }
  | _ => none }
def rulesTellRow : OpenClaim := { program := "ytdbjknljdplinaadoor", sum := "1d906ae32f6001dc570d84d00b8a23660e2efcae64398f97537c6606040a6d27", func := "rematch/rematchlaw09.RulesTell", spec := "rulesTell", named := ["rematch/rules.kinds"], apart := false, laid := [("rematch/rules.kinds", laid_rematch_rules_kinds)] }
def RulesTellSaid : Prop := rulesTellRow.holds Tryd.pinned (OpenSpec.ofChange rulesTellSpec)

/-- ITS FALSE NEIGHBOUR: 'it returns false'. Refute it at one input. -/
def rulesTellWrong : ChangeSpec := { name := "rulesTell", fn := fun _ => fun
  | [d1, d2] => { results := [.lit (.bool false)], args := [d1, d2] }
  | _ => none }
def RulesTellWrongFalsely : Prop := rulesTellRow.holds Tryd.pinned (OpenSpec.ofChange rulesTellWrong)

/-- 'rematchlaw09.RulesHold': WHATEVER THE INPUT: true; the input reads as it did. -/
def rulesHoldSpec : ChangeSpec := { name := "rulesHold", fn := fun _ => fun
  | [d] => { results := [.lit (.bool true)], args := [d] }
  | _ => none }
def rulesHoldRow : OpenClaim := { program := "ytdbjknljdplinaadoor", sum := "1d906ae32f6001dc570d84d00b8a23660e2efcae64398f97537c6606040a6d27", func := "rematch/rematchlaw09.RulesHold", spec := "rulesHold", named := ["rematch/rules.kinds"], apart := false, laid := [("rematch/rules.kinds", laid_rematch_rules_kinds)] }
def RulesHoldSaid : Prop := rulesHoldRow.holds Tryd.pinned (OpenSpec.ofChange rulesHoldSpec)

/-- ITS FALSE NEIGHBOUR: 'it returns false'. Refute it at one input. -/
def rulesHoldWrong : ChangeSpec := { name := "rulesHold", fn := fun _ => fun
  | [d] => { results := [.lit (.bool false)], args := [d] }
  | _ => none }
def RulesHoldWrongFalsely : Prop := rulesHoldRow.holds Tryd.pinned (OpenSpec.ofChange rulesHoldWrong)

/- THE SECOND FORM. 'bulk': how many values and letters a reading holds, each counted each time it is reached (what is shared counts as often as it is met; a slice's spare places count too). A statement '..UptoSaid' is the law's where the arguments, and the package variables that the reading takes, are together of bulk at most 1048576: NARROWER than '..Said'. Prove '..Said' where nothing that the law and all that it calls make is longer than what came in: it says more and counts as full. Else prove '..UptoSaid'. A law counts once. -/
mutual
def uptoBulk {H : Type} : DataW H → Nat
  | .lit (.string bytes) => bytes.length + 1
  | .lit _ => 1
  | .nil => 1
  | .ptr d => uptoBulk d + 1
  | .slice elems spare => uptoBulkAll elems + uptoBulkAll spare + 1
  | .agg parts => uptoBulkAll parts + 1
  | .iface _ d => uptoBulk d + 1
  | .map entries => uptoBulkEntries entries + 1
  | .held _ => 1
def uptoBulkAll {H : Type} : List (DataW H) → Nat
  | [] => 0
  | d :: r => uptoBulk d + uptoBulkAll r
def uptoBulkEntries {H : Type} : List (Lit × DataW H) → Nat
  | [] => 0
  | x :: r => uptoBulkEntry x + uptoBulkEntries r
def uptoBulkEntry {H : Type} : Lit × DataW H → Nat
  | (.string bytes, d) => bytes.length + uptoBulk d + 1
  | (_, d) => uptoBulk d + 1
 end
def uptoSmall : (H : Type) → List (DataW H) → Bool := fun _ ds => decide (uptoBulkAll ds ≤ 1048576)
def OpenSpec.upto (s : _root_.Go.ChangeSpec) : _root_.Go.OpenSpec := { _root_.Go.OpenSpec.ofChange s with cond := some uptoSmall }

/-- 'rematchlaw09.RulesTell', WHERE WHAT IT READS IS OF BULK AT MOST 1048576: true; the input reads as it did. -/
def rulesTellUptoRow : OpenClaim := { program := "ytdbjknljdplinaadoor", sum := "1d906ae32f6001dc570d84d00b8a23660e2efcae64398f97537c6606040a6d27", func := "rematch/rematchlaw09.RulesTell", spec := "rulesTell", named := ["rematch/rules.kinds"], apart := false, laid := [("rematch/rules.kinds", laid_rematch_rules_kinds)], narrowed := true }
def RulesTellUptoSaid : Prop := rulesTellUptoRow.holds Tryd.pinned (OpenSpec.upto rulesTellSpec)

/-- 'rematchlaw09.RulesHold', WHERE WHAT IT READS IS OF BULK AT MOST 1048576: true; the input reads as it did. -/
def rulesHoldUptoRow : OpenClaim := { program := "ytdbjknljdplinaadoor", sum := "1d906ae32f6001dc570d84d00b8a23660e2efcae64398f97537c6606040a6d27", func := "rematch/rematchlaw09.RulesHold", spec := "rulesHold", named := ["rematch/rules.kinds"], apart := false, laid := [("rematch/rules.kinds", laid_rematch_rules_kinds)], narrowed := true }
def RulesHoldUptoSaid : Prop := rulesHoldUptoRow.holds Tryd.pinned (OpenSpec.upto rulesHoldSpec)

end Rows
end Go.Proofs.YtdbjknljdplinaaDoor
