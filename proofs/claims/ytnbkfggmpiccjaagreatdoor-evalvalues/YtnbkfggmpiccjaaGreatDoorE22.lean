import Derived.Test.YtnbkfggmpiccjaaGreatDoorE17
import Derived.Test.YtnbkfggmpiccjaaGreatDoorE10
import Derived.Test.YtnbkfggmpiccjaaGreatDoorE3
import Derived.Test.YtnbkfggmpiccjaaGreatDoorE2
import Derived.Deep.QuietTactic
import Derived.BigQuiet
import Derived.Test.YtnbkfggmpiccjaaGreatDoorE21
set_option linter.unusedVariables false
set_option maxHeartbeats 12000000
namespace Go.Proofs.YtnbkfggmpiccjaaGreatDoor
open Go.RowKit
theorem uidFault_any (t i:ByteArray)(w:World)(ht:t.size≤maxLen)(hi:i.size≤maxLen):
 Calls Tryz.prog 18 #[.agg #[.string t,.string i]] w fun e w'=>e= .returned (.int .i64 (ufault t.data.toList i.data.toList))∧Below w.heap.size w w':=by
 by_cases h0:nfault t.data.toList=0
 · have h0':(nfault t.data.toList == 0)=true:=by simpa using h0
   have HF:Hid (ufault t.data.toList i.data.toList=tfault i.data.toList):=if_pos h0
   clear h0
   go_enter Tryz.func18,Tryz.ntmps18
   go_wp2_with fail
   refine(nameFault_any t _ ht).mono ?_
   rintro e w1 ⟨rfl,rfl⟩
   go_wp2_with fail
   refine(textFault_any i _ hi).mono ?_
   rintro e w1 ⟨rfl,rfl⟩
   go_wp2_with fail
   go_ret
   exact⟨ret_num HF.out.symm,(Below.refl _ _).alloc (Nat.le_refl _) _⟩
 · have h0':(nfault t.data.toList == 0)=false:=by simpa using h0
   have HF:Hid (ufault t.data.toList i.data.toList=nfault t.data.toList):=if_neg h0
   clear h0
   go_enter Tryz.func18,Tryz.ntmps18
   go_wp2_with fail
   refine(nameFault_any t _ ht).mono ?_
   rintro e w1 ⟨rfl,rfl⟩
   go_wp2_with fail
   go_ret
   exact⟨ret_num HF.out.symm,(Below.refl _ _).alloc (Nat.le_refl _) _⟩
theorem numC_any (a b:Int)(w:World):
 Calls Tryz.prog 83 #[.int .i64 a,.int .i64 b] w fun e w'=>e= .returned (.int .i64 (cmpI a b))∧w'=w:=numbers_any a b w
theorem textC_any (a b:ByteArray)(w:World)(ha:a.size≤maxLen)(hb:b.size≤maxLen):
 Calls Tryz.prog 45 #[.string a,.string b] w fun e w'=>e= .returned (.int .i64 (cmpB a b))∧∃n,w'=w.drewN n:=texts_any a b w ha hb
end Go.Proofs.YtnbkfggmpiccjaaGreatDoor
