/- Serv -/
import Derived.Test.YtmjjocnfidnelaaGreatE0
import Derived.Test.YtmjjocnfidnelaaGreatProg
set_option maxRecDepth 100000
set_option maxHeartbeats 16000000
set_option linter.unusedVariables false
set_option linter.unusedSectionVars false
open Go.Proofs.Tryz
namespace Go.Proofs.YtmjjocnfidnelaaGreat
section
open Go Go.cZ
def Dj:List FuncId:=[87,88,100,38,71,72,101,120,121,73,102,103,104,105,106,122,78,56,65,96,116,117,45,49,81]
theorem Qo:Dj.all (yq prog)=true:=zk
end
end Go.Proofs.YtmjjocnfidnelaaGreat
