import Derived.Test.YtlnhaajjoplafaaGreatDoorChecked
import Derived.Test.YtlnhaajjoplafaaGreatDoorT1
import Derived.Test.YtlnhaajjoplafaaGreatDoorT4
import Derived.WalkKit
import Derived.WalkLawsBesides
set_option linter.unusedVariables false
set_option maxHeartbeats 12000000
namespace Go.Proofs.YtlnhaajjoplafaaGreatDoor
open Go.RowKit
theorem isLetter_any (c:UInt8)(w:World):
 Calls Tryz.prog 62 #[.int .u8 (c.toNat:Int)] w fun e w'=>e= .returned (.bool (letb c))∧w'=w:=by
 go_enter Tryz.func62,Tryz.ntmps62
 go_wp2
 all_goals
  go_ret
  refine⟨ret_bool ?_,rfl⟩
  rw[Bool.eq_iff_iff]
  simp[letb]
  omega
theorem isDigit_any (c:UInt8)(w:World):
 Calls Tryz.prog 63 #[.int .u8 (c.toNat:Int)] w fun e w'=>e= .returned (.bool (digb c))∧w'=w:=by
 go_enter Tryz.func63,Tryz.ntmps63
 go_wp2
 all_goals
  go_ret
  refine⟨ret_bool ?_,rfl⟩
  rw[Bool.eq_iff_iff]
  simp[digb]
  omega
theorem ret_int' {k:IntKind}{a b:Int}(h:a=b):Ending.returned (.int k a)= .returned (.int k b):=by rw[h]
theorem isName_any (s:ByteArray)(w:World)(hs:s.size≤maxLen):
 Calls Tryz.prog 37 #[.string s] w fun e w'=>e= .returned (.bool (nm s.data.toList))∧w'=w:=by
 unfold maxLen at hs
 go_enter Tryz.func37,Tryz.ntmps37
 go_wp2
 go_loop [6] (fun i=>∃k:Nat,k≤s.size∧i= .int .i64 k∧Hid (pre (s.data.toList.take k)=true)) (fun i=>s.size-(intOf i).toNat)
 case atStart=>exact⟨0,Nat.zero_le _,rfl,rfl⟩
 case round=>
  obtain⟨k,hk,rfl,HP⟩:=hrel
  by_cases hlt:k<s.size
  · have i1:(k:Int)<(s.size:Int):=by omega
    cases hl:letb s[k]
    · by_cases h0:k=0
      · have HB:Hid (_=_):=pre_bad s k hlt (by rw[hl];simp[h0])
        subst h0
        have i2:(0:Int)<(s.size:Int):=by omega
        go_wp2_with (first | (go_at_call 62;refine(isLetter_any _ _).mono ?_;rintro e w' ⟨rfl,rfl⟩) | (go_at_call 63;refine(isDigit_any _ _).mono ?_;rintro e w' ⟨rfl,rfl⟩))
        go_ret
        exact⟨ret_bool (nm_of_bad HB.out).symm,rfl⟩
      · have h0':((k:Int) == 0)=false:=by simpa using h0
        have h0'':(k == 0)=false:=by simpa using h0
        cases hd:digb s[k]
        · have HB:Hid (_=_):=pre_bad s k hlt (by rw[hl,hd];simp)
          go_wp2_with (first | (go_at_call 62;refine(isLetter_any _ _).mono ?_;rintro e w' ⟨rfl,rfl⟩) | (go_at_call 63;refine(isDigit_any _ _).mono ?_;rintro e w' ⟨rfl,rfl⟩))
          go_ret
          exact⟨ret_bool (nm_of_bad HB.out).symm,rfl⟩
        · have HG:Hid (_=_):=pre_go s k hlt HP.out (by rw[hl,hd,h0''];rfl)
          go_wp2_with (first | (go_at_call 62;refine(isLetter_any _ _).mono ?_;rintro e w' ⟨rfl,rfl⟩) | (go_at_call 63;refine(isDigit_any _ _).mono ?_;rintro e w' ⟨rfl,rfl⟩))
          go_round
          case rel=>exact⟨k+1,by omega,by go_num,HG⟩
          case measure=>simp[intOf];omega
    · have HG:Hid (_=_):=pre_go s k hlt HP.out (by rw[hl];rfl)
      go_wp2_with (first | (go_at_call 62;refine(isLetter_any _ _).mono ?_;rintro e w' ⟨rfl,rfl⟩) | (go_at_call 63;refine(isDigit_any _ _).mono ?_;rintro e w' ⟨rfl,rfl⟩))
      go_round
      case rel=>exact⟨k+1,by omega,by go_num,HG⟩
      case measure=>simp[intOf];omega
  · obtain rfl:k=s.size:=by omega
    have i1:¬(s.size:Int)<(s.size:Int):=by omega
    have HQ:Hid (pre s.data.toList=true):=by
     have:=HP.out
     rw[List.take_of_length_le (by simp)]at this
     exact this
    clear HP
    go_wp2
    go_ret
    refine⟨ret_bool ?_,rfl⟩
    rw[nm_of_pre HQ.out,ByteArray.toList_eq]
theorem check_any (s:ByteArray)(w:World)(hs:s.size≤maxLen):
 Calls Tryz.prog 23 #[.string s] w fun e w'=>e= .returned (eV (nfault s.data.toList))∧w'=w:=by
 have hl:s.data.toList.length=s.size:=by simp
 cases hn:nm s.data.toList
 · have HF:Hid (nfault s.data.toList=1):=by show _=_;unfold nfault;rw[hn];rfl
   go_enter Tryz.func23,Tryz.ntmps23
   go_wp2_with (go_at_call 37;refine(isName_any _ _ hs).mono ?_;rintro e w' ⟨rfl,rfl⟩)
   go_ret
   exact⟨by rw[HF.out];rfl,rfl⟩
 · by_cases h:20<s.size
   · have HF:Hid (nfault s.data.toList=4):=by show _=_;unfold nfault;rw[hn,if_pos rfl,if_pos (by omega)]
     have h':(20:Int)<(s.size:Int):=by omega
     go_enter Tryz.func23,Tryz.ntmps23
     go_wp2_with (go_at_call 37;refine(isName_any _ _ hs).mono ?_;rintro e w' ⟨rfl,rfl⟩)
     go_ret
     exact⟨by rw[HF.out];rfl,rfl⟩
   · have HF:Hid (nfault s.data.toList=0):=by show _=_;unfold nfault;rw[hn,if_pos rfl,if_neg (by omega)]
     have h':¬(20:Int)<(s.size:Int):=by omega
     go_enter Tryz.func23,Tryz.ntmps23
     go_wp2_with (go_at_call 37;refine(isName_any _ _ hs).mono ?_;rintro e w' ⟨rfl,rfl⟩)
     go_ret
     exact⟨by rw[HF.out];rfl,rfl⟩
end Go.Proofs.YtlnhaajjoplafaaGreatDoor
