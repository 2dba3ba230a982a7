import Derived.Test.YthhijecpookfhaaGreatDoorF9
import Derived.Test.YthhijecpookfhaaGreatDoorF2
import Derived.Outline
import Derived.Test.YthhijecpookfhaaGreatDoorF11
import Derived.Test.YthhijecpookfhaaGreatDoorChecked
import Derived.Test.YthhijecpookfhaaGreatDoorF12
set_option linter.unusedVariables false
set_option maxHeartbeats 12000000
namespace Go.Proofs.YthhijecpookfhaaGreatDoor
open Go.RowKit
theorem isTextByte_any (c:UInt8)(w:World):
 Calls Tryz.prog 64 #[.int .u8 (c.toNat:Int)] w fun e w'=>e= .returned (.bool (okb c))∧w'=w:=by
 by_cases h:(32:Int)≤(c.toNat:Int)
 · go_enter Tryz.func64,Tryz.ntmps64
   go_wp2
   go_ret
   refine⟨?_,rfl⟩
   have h':32≤c.toNat:=by omega
   simp[okb,h'];omega
 · go_enter Tryz.func64,Tryz.ntmps64
   go_wp2
   go_ret
   refine⟨?_,rfl⟩
   have h':¬ 32≤c.toNat:=by omega
   simp[okb,h']
theorem isGuarded_any (c:UInt8)(w:World):
 Calls Tryz.prog 65 #[.int .u8 (c.toNat:Int)] w fun e w'=>e= .returned (.bool (grd c))∧w'=w:=by
 go_enter Tryz.func65,Tryz.ntmps65
 go_wp2
 all_goals
  go_ret
  refine⟨?_,rfl⟩
 · have h:(c.toNat:Int)=34:=by assumption
   have h':c.toNat=34:=by omega
   simp[grd,h']
 · have h:¬(c.toNat:Int)=34:=by assumption
   have h':(c.toNat == 34)=false:=by simp;omega
   have e:((c.toNat:Int) == 92)=(c.toNat == 92):=by rw[Bool.eq_iff_iff];simp;omega
   have e2:((c.toNat:Int) == 34)=false:=by simp;omega
   have e3:((c.toNat:Int) == 34 || (c.toNat:Int) == 92)=grd c:=by unfold grd;rw[h',e2,e]
   exact congrArg (fun b=>Ending.returned (.bool b)) e3
theorem quote_full (s:ByteArray)(w:World)(hs:s.size≤maxLen)(h:60<s.size):
 Calls Tryz.prog 51 #[.string s] w fun e w'=>e= .returned (.tuple #[.string ByteArray.empty,.iface 35 (.int .i64 4)])∧w'=w:=by
 have h':(60:Int)<(s.size:Int):=by omega
 go_enter Tryz.func51,Tryz.ntmps51
 go_wp2
 go_ret2
 exact⟨rfl,rfl⟩
theorem all_snoc (l:List UInt8)(c:UInt8)(h:l.all okb=true)(hc:okb c=true):(l++[c]).all okb=true:=by
 rw[List.all_append,h];simp[hc]
theorem body_one_plain {c:UInt8}(h:grd c=false)(l:List UInt8):(34::body l)++[c]=34::body (l++[c]):=by
 rw[body_snoc,one,if_neg (by simp[h])];rfl
theorem body_one_grd {c:UInt8}(h:grd c=true)(l:List UInt8):((34::body l)++[92])++[c]=34::body (l++[c]):=by
 rw[body_snoc,one,if_pos h];simp
def qres (l:List UInt8):Value:=if l.all okb then .tuple #[.string ⟨(quoted l).toArray⟩,.nilIface]else .tuple #[.string ⟨#[]⟩,.iface 35 (.int .i64 1)]
theorem qres_ok {l:List UInt8}(h:l.all okb=true):qres l= .tuple #[.string ⟨(quoted l).toArray⟩,.nilIface]:=if_pos h
theorem qres_bad {l:List UInt8}(h:l.all okb=false):qres l= .tuple #[.string ⟨#[]⟩,.iface 35 (.int .i64 1)]:=if_neg (by rw[h];decide)
theorem take_done (s:ByteArray)(k:Nat)(h:s.size≤k):s.data.toList.take k=s.data.toList:=List.take_of_length_le (by simpa using h)
theorem quote_short (s:ByteArray)(w:World)(h:s.size≤60):
 Calls Tryz.prog 51 #[.string s] w fun e w'=>e= .returned (qres s.data.toList)∧Below w.heap.size w w':=by
 have h':¬(60:Int)<(s.size:Int):=by omega
 go_enter Tryz.func51,Tryz.ntmps51
 go_wp2
 go_loopw [4,13] (fun v i wr=>∃k:Nat,k≤s.size∧i= .int .i64 k∧OwnB wr w.heap.size v (34::body (s.data.toList.take k))∧Hid ((s.data.toList.take k).all okb=true)∧Below w.heap.size w wr) (fun _ i _=>s.size-(intOf i).toNat)
 case atStart=>exact⟨0,Nat.zero_le _,rfl,ownB_one w 34 34 rfl,rfl,(Below.refl _ _).alloc (Nat.le_refl _) _⟩
 case round=>
  obtain⟨k,hk,rfl,hown,HA,hnx⟩:=hrel
  have hbl:=body_length (s.data.toList.take k)
  have htl:(s.data.toList.take k).length≤k:=List.length_take_le _ _
  have hsz:=hnx.size
  by_cases hlt:k<s.size
  · have HT:Hid (_=_):=take_snoc s k hlt
    have i1:(k:Int)<(s.size:Int):=by omega
    cases ho:okb s[k]
    · go_wp2_with (go_at_call 64;refine(isTextByte_any _ _).mono ?_;rintro e w' ⟨rfl,rfl⟩)
      go_ret2
      refine⟨?_,hnx⟩
      rw[qres_bad (all_take_bad s k hlt ho)];rfl
    · have HA2:Hid (_=_):=all_snoc _ _ HA.out ho
      cases hg:grd s[k]
      · have HB:Hid (_=_):=body_one_plain hg (s.data.toList.take k)
        go_wp2_with (first
         | (go_at_call 64;refine(isTextByte_any _ _).mono ?_;rintro e w' ⟨rfl,rfl⟩)
         | (go_at_call 65;refine(isGuarded_any _ _).mono ?_;rintro e w' ⟨rfl,rfl⟩)
         | (at_builtin;refine append_byte _ rfl (.tmp 29) (.tmp 33) rfl w.heap.size _ _ rfl hown _ s[k] rfl rfl (by simp only[List.length_cons];omega) hsz ?_;intro v' w1 hown1 hb1))
        go_roundw
        case rel=>exact⟨k+1,by omega,by go_num,by rw[HT.out,←HB.out];exact hown1,by rw[HT.out];exact HA2,hnx.trans hb1⟩
        case measure=>simp[intOf];omega
      · have HB:Hid (_=_):=body_one_grd hg (s.data.toList.take k)
        have t1:True:=trivial
        go_wp2_with (first
         | (go_at_call 64;refine(isTextByte_any _ _).mono ?_;rintro e w' ⟨rfl,rfl⟩)
         | (go_at_call 65;refine(isGuarded_any _ _).mono ?_;rintro e w' ⟨rfl,rfl⟩)
         | (at_builtin;have _t:=t1;refine append_byte _ rfl (.tmp 26) (.tmp 27) rfl w.heap.size _ _ rfl hown _ 92 rfl rfl (by simp only[List.length_cons];omega) hsz ?_;intro v1 w1 hown1 hb1;have hz1:=hb1.size;clear t1)
         | (at_builtin;refine append_byte _ rfl (.tmp 29) (.tmp 33) rfl w.heap.size _ _ rfl hown1 _ s[k] rfl rfl (by simp only[List.length_cons,List.length_append,List.length_nil];omega) (by omega) ?_;intro v2 w2 hown2 hb2))
        go_roundw
        case rel=>exact⟨k+1,by omega,by go_num,by rw[HT.out,←HB.out];exact hown2,by rw[HT.out];exact HA2,(hnx.trans hb1).trans hb2⟩
        case measure=>simp[intOf];omega
  · obtain rfl:k=s.size:=by omega
    have HA2:Hid (s.data.toList.all okb=true):=by have:=HA.out;rw[take_all s]at this;exact this
    rw[take_all s]at hown hbl htl
    have i1:¬(s.size:Int)<(s.size:Int):=by omega
    clear HA
    go_wp2_with (at_builtin;refine append_byte _ rfl (.tmp 36) (.tmp 37) rfl w.heap.size _ _ rfl hown _ 34 rfl rfl (by simp only[List.length_cons];omega) hsz ?_;intro v1 w1 hown1 hb1;have hconv:=text_of w1 _ v1 _ hown1)
    go_ret2
    refine⟨?_,hnx.trans hb1⟩
    rw[qres_ok HA2.out]
    rfl
theorem quoteN_any (s:ByteArray)(w:World)(hs:s.size≤maxLen):
 Calls Tryz.prog 51 #[.string s] w fun e w'=>∃q:ByteArray,q.size≤122∧e= .returned (.tuple #[.string q,eV (tfault s.data.toList)])∧Below w.heap.size w w':=by
 have hl:s.data.toList.length=s.size:=by simp
 by_cases h1:s.size≤60
 · refine(quote_short s w h1).mono ?_
   rintro e w' ⟨rfl,hb⟩
   cases h2:s.data.toList.all okb
   · exact⟨⟨#[]⟩,Nat.zero_le _,by rw[qres_bad h2,tfault_bad (by rw[hl];exact h1) h2];rfl,hb⟩
   · refine⟨⟨(quoted s.data.toList).toArray⟩,?_,?_,hb⟩
     · have:=body_length s.data.toList
       show(quoted s.data.toList).length≤122
       unfold quoted
       rw[List.length_cons,List.length_append,List.length_cons,List.length_nil];omega
     · rw[qres_ok h2,tfault_ok (by unfold textOk;rw[decide_eq_true (by rw[hl];exact h1),h2];rfl)];rfl
 · refine(quote_full s w hs (by omega)).mono ?_
   rintro e w' ⟨rfl,rfl⟩
   exact⟨⟨#[]⟩,Nat.zero_le _,by rw[tfault_long (by rw[hl];exact h1)];rfl,Below.refl _ _⟩
set_option linter.unusedSimpArgs false
theorem write_any (t i:ByteArray)(w:World)(htm:t.size≤maxLen)(him:i.size≤maxLen):
 Calls Tryz.prog 35 #[.agg #[.string t,.string i]] w fun e w'=>∃q:ByteArray,e= .returned (.tuple #[.string q,eV (ufault t.data.toList i.data.toList)])∧Below w.heap.size w w':=by
 by_cases ht:nfault t.data.toList=0
 · have htl:t.size≤20:=by have:=nfault_small ht;simpa using this
   have HE:Hid (eV (nfault t.data.toList)= .nilIface):=eV_nil ht
   have HU:Hid (ufault t.data.toList i.data.toList=tfault i.data.toList):=if_pos ht
   clear ht
   by_cases hi:tfault i.data.toList=0
   · have HI:Hid (eV (tfault i.data.toList)= .nilIface):=eV_nil hi
     clear hi
     go_enter Tryz.func35,Tryz.ntmps35
     go_wp2_with fail
     refine(check_any t _ htm).mono ?_
     rintro e w1 ⟨rfl,rfl⟩
     rw[HE.out]
     go_wp2_with fail
     refine(quoteN_any i _ him).mono ?_
     rintro e w2 ⟨q,hq,rfl,hb2⟩
     rw[HI.out]
     have hc2:∀o,w2.cell? ⟨w.heap.size,o,none⟩=_:=fun o=>hb2.cell (p:=⟨w.heap.size,o,none⟩) (by simp)
     go_wp2_with fail
     go_ret2
     exact⟨t++⟨#[58,58]⟩++q,by rw[HU.out,HI.out];rfl,((Below.refl _ _).alloc (Nat.le_refl _) _).trans (hb2.mono (by simp))⟩
   · have HI:Hid (eV (tfault i.data.toList)= .iface 35 (.int .i64 (tfault i.data.toList))):=eV_not hi
     clear hi
     go_enter Tryz.func35,Tryz.ntmps35
     go_wp2_with fail
     refine(check_any t _ htm).mono ?_
     rintro e w1 ⟨rfl,rfl⟩
     rw[HE.out]
     go_wp2_with fail
     refine(quoteN_any i _ him).mono ?_
     rintro e w2 ⟨q,hq,rfl,hb2⟩
     rw[HI.out]
     go_wp2_with fail
     go_ret2
     exact⟨⟨#[]⟩,by rw[HU.out,HI.out];rfl,((Below.refl _ _).alloc (Nat.le_refl _) _).trans (hb2.mono (by simp))⟩
 · have HE:Hid (eV (nfault t.data.toList)= .iface 35 (.int .i64 (nfault t.data.toList))):=eV_not ht
   have HU:Hid (ufault t.data.toList i.data.toList=nfault t.data.toList):=if_neg ht
   clear ht
   go_enter Tryz.func35,Tryz.ntmps35
   go_wp2_with fail
   refine(check_any t _ htm).mono ?_
   rintro e w1 ⟨rfl,rfl⟩
   rw[HE.out]
   go_wp2_with fail
   go_ret2
   exact⟨⟨#[]⟩,by rw[HU.out,HE.out];rfl,(Below.refl _ _).alloc (Nat.le_refl _) _⟩
theorem ret_num {k:IntKind}{a b:Int}(h:a=b):Ending.returned (.int k a)= .returned (.int k b):=by rw[h]
theorem textFault_any (s:ByteArray)(w:World)(hs:s.size≤maxLen):
 Calls Tryz.prog 34 #[.string s] w fun e w'=>e= .returned (.int .i64 (tfault s.data.toList))∧w'=w:=by
 have hl:s.data.toList.length=s.size:=by simp
 by_cases h60:s.size≤60
 · have h':¬(60:Int)<(s.size:Int):=by omega
   go_enter Tryz.func34,Tryz.ntmps34
   go_wp2
   go_loop [3] (fun i=>∃k:Nat,k≤s.size∧i= .int .i64 k∧Hid ((s.data.toList.take k).all okb=true)) (fun i=>s.size-(intOf i).toNat)
   case atStart=>exact⟨0,Nat.zero_le _,rfl,rfl⟩
   case round=>
    obtain⟨k,hk,rfl,HA⟩:=hrel
    by_cases hlt:k<s.size
    · have i1:(k:Int)<(s.size:Int):=by omega
      cases ho:okb s[k]
      · have HF:Hid (_=_):=tfault_bad (l:=s.data.toList) (by omega) (all_take_bad s k hlt ho)
        have hb:(s[k].toNat:Int)<32∨(126:Int)<(s[k].toNat:Int):=by
         unfold okb at ho
         simp only[Bool.and_eq_false_iff,decide_eq_false_iff_not]at ho
         omega
        by_cases hb1:(s[k].toNat:Int)<32
        · go_wp2
          go_ret
          exact⟨ret_num HF.out.symm,rfl⟩
        · have hb2:(126:Int)<(s[k].toNat:Int):=by omega
          clear hb
          go_wp2
          go_ret
          exact⟨ret_num HF.out.symm,rfl⟩
      · have HA2:Hid (_=_):=all_snoc _ _ HA.out ho
        have HT:Hid (_=_):=take_snoc s k hlt
        have hb:¬(s[k].toNat:Int)<32∧¬(126:Int)<(s[k].toNat:Int):=by
         unfold okb at ho
         simp only[Bool.and_eq_true,decide_eq_true_eq]at ho
         omega
        obtain⟨hb1,hb2⟩:=hb
        go_wp2
        go_round
        case rel=>exact⟨k+1,by omega,by go_num,by rw[HT.out];exact HA2⟩
        case measure=>simp[intOf];omega
    · obtain rfl:k=s.size:=by omega
      have i1:¬(s.size:Int)<(s.size:Int):=by omega
      have HF:Hid (_=_):=tfault_ok (l:=s.data.toList) (by
       have h:=HA.out
       rw[take_all s]at h
       unfold textOk;rw[h,decide_eq_true (by omega)];rfl)
      go_wp2
      go_ret
      exact⟨ret_num HF.out.symm,rfl⟩
 · have HF:Hid (_=_):=tfault_long (l:=s.data.toList) (by omega)
   have h':(60:Int)<(s.size:Int):=by omega
   go_enter Tryz.func34,Tryz.ntmps34
   go_wp2
   go_ret
   exact⟨ret_num HF.out.symm,rfl⟩
end Go.Proofs.YthhijecpookfhaaGreatDoor
