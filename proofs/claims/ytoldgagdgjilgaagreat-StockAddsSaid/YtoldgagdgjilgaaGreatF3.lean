/- Serv -/
import Derived.Test.YtoldgagdgjilgaaGreatF2
import Derived.Test.YtoldgagdgjilgaaGreatProg
set_option maxRecDepth 100000
set_option maxHeartbeats 16000000
set_option linter.unusedVariables false
set_option linter.unusedSectionVars false
open Go.Proofs.Tryz
namespace Go.Proofs.YtoldgagdgjilgaaGreat
section
open Go Go.bV
def BF:List FuncId:=[83,84,102,26,60,61,85,112,113,62,86,87,88,89,90,114,63,51,69,100,115,116,44,48,77]
theorem OE:BF.all (re prog)=true:=zk
end
end Go.Proofs.YtoldgagdgjilgaaGreat
