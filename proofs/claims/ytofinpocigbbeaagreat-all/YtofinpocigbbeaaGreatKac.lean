import Derived.Test.YtofinpocigbbeaaGreatKab
import Derived.ProofKit
import Derived.OpenShut
import Derived.Deep.Slices
import Derived.Lib.SmallJoins
set_option maxHeartbeats 1000000
set_option maxRecDepth 100000
set_option linter.unusedSimpArgs false
namespace Go.Proofs.YtofinpocigbbeaaGreat
open Go.Proofs.Tryz Go.RowKit Go.ChangeShapes Go.WideShapes Go.ChangeAt Go.Deep
theorem S4:ownKnob prog.godebug=none:=by kernel_rfl
theorem Kg:laidOutB prog=true:=by kernel_rfl
theorem Jb:prog.cellsOf 3=1:=by kernel_rfl
theorem JN:prog.cellsOf 53=4:=by kernel_rfl
theorem QP{x:Int}(h:(Lit.int .i64 x).wf=true): -9223372036854775808<=x/\x<=9223372036854775807:=by
 have:=bounds_i64 h;omega
theorem Jc(b off o:Nat):((jA b off):Addr).add o=(jA b (off+o)):=by unfold Addr.add;split<;>simp_all
end Go.Proofs.YtofinpocigbbeaaGreat
