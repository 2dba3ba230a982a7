import Derived.Test.YtgbljlabifpmgaaGreatDoorP8
import Derived.Test.YtgbljlabifpmgaaGreatDoorP10
import Derived.Test.YtgbljlabifpmgaaGreatDoorP14
import Derived.Test.YtgbljlabifpmgaaGreatDoorP1
import Derived.Deep.QuietTactic
import Derived.BigQuiet
import Derived.Test.YtgbljlabifpmgaaGreatDoorP16
set_option linter.unusedVariables false
set_option maxHeartbeats 12000000
namespace Go.Proofs.YtgbljlabifpmgaaGreatDoor
open Go.RowKit
theorem uidFault_any (t i:ByteArray)(w:World)(ht:t.size≤maxLen)(hi:i.size≤maxLen):
 Calls Tryz.prog 91 #[.agg #[.string t,.string i]] w fun e w'=>e= .returned (.int .i64 (ufault t.data.toList i.data.toList))∧Below w.heap.size w w':=by
 by_cases h0:nfault t.data.toList=0
 · have h0':(nfault t.data.toList == 0)=true:=by simpa using h0
   have HF:Hid (ufault t.data.toList i.data.toList=tfault i.data.toList):=if_pos h0
   clear h0
   go_enter Tryz.func91,Tryz.ntmps91
   go_wp2_with fail
   refine(nameFault_any t _ ht).mono ?_
   rintro e w1 ⟨rfl,rfl⟩
   go_wp2_with fail
   refine(textFault_any i _ hi).mono ?_
   rintro e w1 ⟨rfl,rfl⟩
   go_wp2_with fail
   go_ret
   exact⟨ret_num HF.out.symm,(Below.refl _ _).alloc (Nat.le_refl _) _⟩
 · have h0':(nfault t.data.toList == 0)=false:=by simpa using h0
   have HF:Hid (ufault t.data.toList i.data.toList=nfault t.data.toList):=if_neg h0
   clear h0
   go_enter Tryz.func91,Tryz.ntmps91
   go_wp2_with fail
   refine(nameFault_any t _ ht).mono ?_
   rintro e w1 ⟨rfl,rfl⟩
   go_wp2_with fail
   go_ret
   exact⟨ret_num HF.out.symm,(Below.refl _ _).alloc (Nat.le_refl _) _⟩
theorem numC_any (a b:Int)(w:World):
 Calls Tryz.prog 77 #[.int .i64 a,.int .i64 b] w fun e w'=>e= .returned (.int .i64 (cmpI a b))∧w'=w:=numbers_any a b w
theorem textC_any (a b:ByteArray)(w:World)(ha:a.size≤maxLen)(hb:b.size≤maxLen):
 Calls Tryz.prog 51 #[.string a,.string b] w fun e w'=>e= .returned (.int .i64 (cmpB a b))∧∃n,w'=w.drewN n:=texts_any a b w ha hb
end Go.Proofs.YtgbljlabifpmgaaGreatDoor
