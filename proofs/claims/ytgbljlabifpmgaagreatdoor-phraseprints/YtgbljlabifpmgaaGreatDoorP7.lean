import Derived.Test.YtgbljlabifpmgaaGreatDoorChecked
import Derived.WalkKit
set_option linter.unusedVariables false
set_option maxHeartbeats 12000000
namespace Go.Proofs.YtgbljlabifpmgaaGreatDoor
open Go.RowKit
theorem ret_bool {a b:Bool}(h:a=b):Ending.returned (.bool a)= .returned (.bool b):=by rw[h]
def eV (n:Int):Value:=if n=0 then .nilIface else .iface 33 (.int .i64 n)
theorem eV_zero:eV 0= .nilIface:=rfl
theorem eV_not {n:Int}(h:n≠0):eV n= .iface 33 (.int .i64 n):=if_neg h
theorem eV_nil {n:Int}(h:n=0):eV n= .nilIface:=if_pos h
theorem ret_eV {n:Int}{v:Value}(h:v=eV n):Ending.returned v= .returned (eV n):=by rw[h]
end Go.Proofs.YtgbljlabifpmgaaGreatDoor
