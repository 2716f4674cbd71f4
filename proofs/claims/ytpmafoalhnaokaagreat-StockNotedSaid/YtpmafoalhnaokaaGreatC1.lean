/- Serv -/
import Derived.Test.YtpmafoalhnaokaaGreatC0
import Derived.Test.YtpmafoalhnaokaaGreatProg
set_option maxRecDepth 100000
set_option maxHeartbeats 16000000
set_option linter.unusedVariables false
open Go.Proofs.Tryz
namespace Go.Proofs.YtpmafoalhnaokaaGreat
section
open Go Go.cu
def D6:List FuncId:=[100,101,102,39,79,80,103,130,131,81,104,105,106,107,108,132,92,65,88,120,139,140,55,59,77]
theorem RB:D6.all (Hk prog)=true:=zk
end
end Go.Proofs.YtpmafoalhnaokaaGreat
