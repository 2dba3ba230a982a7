import Derived.Test.YtnbkfggmpiccjaaGreatDoorChecked
import Derived.Test.YtnbkfggmpiccjaaGreatDoorE3
import Derived.WalkKit
import Derived.WalkLawsBesides
import Derived.Deep.QuietTactic
import Derived.BigQuiet
set_option linter.unusedVariables false
set_option maxHeartbeats 12000000
namespace Go.Proofs.YtnbkfggmpiccjaaGreatDoor
open Go.RowKit
theorem ret_nN {k:IntKind}{a b:Int}(h:a=b):Ending.returned (.int k a)= .returned (.int k b):=by rw[h]
theorem numbers_any (a b:Int)(w:World):
 Calls Tryz.prog 83 #[.int .i64 a,.int .i64 b] w fun e w'=>e= .returned (.int .i64 (if a<b then-1 else if b<a then 1 else 0))∧w'=w:=by
 by_cases h:a<b
 · go_enter Tryz.func83,Tryz.ntmps83
   go_wp2
   go_ret
   exact⟨rfl,rfl⟩
 · by_cases k:b<a
   · go_enter Tryz.func83,Tryz.ntmps83
     go_wp2
     go_ret
     exact⟨rfl,rfl⟩
   · go_enter Tryz.func83,Tryz.ntmps83
     go_wp2
     go_ret
     exact⟨rfl,rfl⟩
theorem texts_any (a b:ByteArray)(w:World)(ha:a.size≤maxLen)(hb:b.size≤maxLen):
 Calls Tryz.prog 45 #[.string a,.string b] w fun e w'=>e= .returned (.int .i64 (Lib.compareBytes a.data.toList b.data.toList))∧∃n,w'=w.drewN n:=by
 unfold maxLen at ha hb
 go_enter Tryz.func45,Tryz.ntmps45
 go_wp2
 go_loopw [5] (fun i wq=>∃k n:Nat,k≤a.size∧k≤b.size∧i= .int .i64 k∧wq=w.drewN n∧Hid (Lib.compareBytes (a.data.toList.drop k) (b.data.toList.drop k)=Lib.compareBytes a.data.toList b.data.toList)) (fun i _=>a.size-(intOf i).toNat)
 case atStart=>exact⟨0,0,Nat.zero_le _,Nat.zero_le _,rfl,rfl,rfl⟩
 case round=>
  obtain⟨k,n,hk,hk2,rfl,rfl,HC⟩:=hrel
  by_cases hlt:k<a.size
  · by_cases hlt2:k<b.size
    · have HS:Hid (_=_):=cb_step a b k hlt hlt2
      have i1:(k:Int)<(a.size:Int):=by omega
      have i2:(k:Int)<(b.size:Int):=by omega
      by_cases c1:(a[k].toNat:Int)<(b[k].toNat:Int)
      · go_wp2
        go_quiet (fail)
        go_wp2
        go_ret
        exact⟨ret_nN (by rw[←HC.out,HS.out,if_pos c1]),_,by rw[World.drewN_drewN]⟩
      · by_cases c2:(b[k].toNat:Int)<(a[k].toNat:Int)
        · go_wp2
          go_quiet (fail)
          go_wp2
          go_quiet (fail)
          go_wp2
          go_ret
          exact⟨ret_nN (by rw[←HC.out,HS.out,if_neg (by omega),if_pos c2]),_,by rw[World.drewN_drewN,World.drewN_drewN]⟩
        · go_wp2
          go_quiet (fail)
          go_wp2
          go_quiet (fail)
          go_wp2
          go_roundw
          case rel=>exact⟨k+1,_,by omega,by omega,by go_num,rfl,by show _=_;rw[←HC.out,HS.out,if_neg (by omega),if_neg (by omega)]⟩
          case measure=>simp[intOf];omega
    · have HE:Hid (_=_):=cb_end a b k hk hk2 (by omega)
      have i1:(k:Int)<(a.size:Int):=by omega
      have i2:¬(k:Int)<(b.size:Int):=by omega
      go_wp2_with (go_at_call 83;refine(numbers_any _ _ _).mono ?_;rintro e w' ⟨rfl,rfl⟩)
      all_goals
       go_ret
       exact⟨ret_nN (by rw[←HC.out,HE.out];first | rw[if_pos ‹_›] | rw[if_neg ‹_›, if_pos ‹_›] | rw[if_neg ‹_›, if_neg ‹_›]),_,rfl⟩
  · have HE:Hid (_=_):=cb_end a b k hk hk2 (by omega)
    have i1:¬(k:Int)<(a.size:Int):=by omega
    go_wp2_with (go_at_call 83;refine(numbers_any _ _ _).mono ?_;rintro e w' ⟨rfl,rfl⟩)
    all_goals
     go_ret
     exact⟨ret_nN (by rw[←HC.out,HE.out];first | rw[if_pos ‹_›] | rw[if_neg ‹_›, if_pos ‹_›] | rw[if_neg ‹_›, if_neg ‹_›]),_,rfl⟩
end Go.Proofs.YtnbkfggmpiccjaaGreatDoor
