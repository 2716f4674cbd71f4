/- Serv -/
import Derived.Test.YthaelabgfnnebaaGreatE7
import Derived.Test.YthaelabgfnnebaaGreatProg
set_option maxRecDepth 100000
set_option maxHeartbeats 16000000
set_option linter.unusedVariables false
set_option linter.unusedSectionVars false
open Go.Proofs.Tryz
namespace Go.Proofs.YthaelabgfnnebaaGreat
section
open Go Go.cu
def CV:List FuncId:=[83,84,96,40,76,77,100,127,128,78,101,102,103,104,105,129,91,35,79,106,130,131,57,61,80]
theorem P9:CV.all (vt prog)=true:=zk
end
end Go.Proofs.YthaelabgfnnebaaGreat
