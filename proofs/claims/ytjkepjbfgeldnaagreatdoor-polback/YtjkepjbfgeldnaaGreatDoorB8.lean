import Derived.Test.YtjkepjbfgeldnaaGreatDoorB7
import Derived.Test.YtjkepjbfgeldnaaGreatDoorShelf
import Derived.Defers
import Derived.Recover
import Derived.Laws.Pointers
import Derived.Test.YtjkepjbfgeldnaaGreatDoorB1
import Derived.Test.YtjkepjbfgeldnaaGreatDoorB6
import Derived.Laws.StructEq
import Derived.Lib.AppendStr
set_option linter.unusedVariables false
set_option maxHeartbeats 12000000
namespace Go.Proofs.YtjkepjbfgeldnaaGreatDoor
open Go.RowKit
theorem clone_any (s:ByteArray)(w:World)(hs:s.size≤281474976710656):
 Calls Tryz.prog 110 #[.string s] w fun e w'=>e= .returned (.string s)∧Below w.heap.size w w':=by
 go_enter Tryz.func110,Tryz.ntmps110
 go_wp2_with fail
 refine(Any.stringslite_Clone Tryz.laysM316 s _ hs).mono ?_
 rintro e w1 ⟨rfl,hb⟩
 go_wp2_with fail
 go_ret
 exact⟨rfl,hb⟩
theorem trim_any (s:ByteArray)(w:World):
 Calls Tryz.prog 111 #[.string s,.string ⟨#[48]⟩] w fun e w'=>e= .returned (.string ⟨(s.data.toList.dropWhile (· == 48)).toArray⟩)∧w'=w:=
 Any.strings_TrimLeft_one Tryz.lays161 s 48 (by decide) w
theorem idx_any (s:ByteArray)(c:UInt8)(w:World):
 Calls Tryz.prog 115 #[.string s,.int .u8 (c.toNat:Int)] w fun e w'=>e= .returned (.int .i64 (Lib.indexByte s.data.toList c))∧w'=w:=by
 have h:=Any.strings_IndexByte Tryz.lays137 s (c.toNat:Int) w
 have e:((c.toNat:Int).toNat).toUInt8=c:=by simp
 rw[e]at h
 exact h
theorem idx_has (l:List UInt8)(c:UInt8):decide (0≤Lib.indexByte l c)=l.contains c:=by
 induction l with
 | nil=>rfl
 | cons b r ih=>
   have hg:=Lib.indexByte_ge r c
   unfold Lib.indexByte
   rw[List.contains_cons]
   by_cases h:b=c
   · subst h;simp
   · have h1:(b == c)=false:=by simpa using h
     have h2:(c == b)=false:=by simpa using fun e:c=b=>h e.symm
     rw[h1,h2,Bool.false_or,←ih]
     simp only[Bool.false_eq_true,if_false]
     by_cases h3:Lib.indexByte r c= -1
     · rw[h3];decide
     · have h4:(Lib.indexByte r c == -1)=false:=by simpa using h3
       rw[h4]
       simp only[Bool.false_eq_true,if_false]
       rw[decide_eq_decide];omega
theorem firstName_any (s:ByteArray)(w:World)(hs:s.size≤900):
 Calls Tryz.prog 84 #[.string s] w fun e w'=>e=endW (wName 1 0 s.data.toList)∧Below w.heap.size w w':=by
 have hl:s.data.toList.length=s.size:=by simp
 have hr:=runL_le namb s.data.toList
 have HX:Hid ((s.extract 0 (runL namb s.data.toList)).data.toList=s.data.toList.takeWhile namb):=by
  show _=_;rw[head_take,runL_take]
 have HR:=runName_any s
 have HN:Hid (runL namb s.data.toList=(s.data.toList.takeWhile namb).length):=rfl
 generalize runL namb s.data.toList=r at *
 have i1:(r:Int)≤(s.size:Int):=by omega
 have hxs:(s.extract 0 r).size=r:=by simp;omega
 have hc:=fun w=>check_any (s.extract 0 r) w (by rw[hxs];unfold maxLen;omega)
 rw[HX.out]at hc
 by_cases hf:nfault (s.data.toList.takeWhile namb)=0
 · have HW:Hid (_=_):=wName_ok (k:=1) (m:=0) hf
   rw[eV_nil hf]at hc
   clear hf
   go_enter Tryz.func84,Tryz.ntmps84
   go_wp2_with fail
   refine(HR _ (by unfold maxLen;omega)).mono ?_
   rintro e w1 ⟨rfl,rfl⟩
   go_wp2_with fail
   refine(hc _).mono ?_
   rintro e w2 ⟨rfl,rfl⟩
   go_wp2_with fail
   refine(wneed_true _ _).mono ?_
   rintro e w3 ⟨rfl,rfl⟩
   go_wp2_with fail
   refine(clone_any (s.extract 0 r) _ (by rw[hxs];omega)).mono ?_
   rintro e w4 ⟨rfl,hb⟩
   have q0:∀o,w4.cell? ⟨w.heap.size,o,none⟩=_:=fun o=>hb.cell (p:=⟨w.heap.size,o,none⟩) (by simp)
   have qf:∀o,w4.frozen? ⟨w.heap.size,o,none⟩=_:=fun o=>hb.frozen (p:=⟨w.heap.size,o,none⟩) (by simp)
   have d0:w4.cell? ⟨w.heap.size,0,none⟩=some (.int .i64 0):=(q0 0).trans (by simp[go_sem])
   have d1:w4.cell? ⟨w.heap.size,1,none⟩=some (.string ⟨#[]⟩):=(q0 1).trans (by simp[go_sem])
   have d2:w4.cell? ⟨w.heap.size,2,none⟩=some (.int .i64 0):=(q0 2).trans (by simp[go_sem])
   have f0:w4.frozen? ⟨w.heap.size,0,none⟩=false:=(qf 0).trans (by simp[go_sem])
   have f1:w4.frozen? ⟨w.heap.size,1,none⟩=false:=(qf 1).trans (by simp[go_sem])
   have f2:w4.frozen? ⟨w.heap.size,2,none⟩=false:=(qf 2).trans (by simp[go_sem])
   have hbw:Below w.heap.size w w4:=((Below.refl _ _).alloc (Nat.le_refl _) _).trans (hb.mono (by simp))
   clear q0 qf
   go_wp2
   refine bodyPost_ret (v:=.tuple #[.agg #[.int .i64 1,.string (s.extract 0 r),.int .i64 0],.int .i64 r]) (by simp[results,Tryz.results84,go_sem,d0,d1,d2]) rfl ⟨?_,?_⟩
   · rw[HW.out,of_list HX.out,HN.out]
     simp[endW]
   · exact((hbw.setCell (Nat.le_refl _) _).setCell (Nat.le_refl _) _).setCell (Nat.le_refl _) _
 · have HW:Hid (_=_):=wName_bad (k:=1) (m:=0) hf
   rw[eV_not hf]at hc
   clear hf
   go_enter Tryz.func84,Tryz.ntmps84
   go_wp2_with fail
   refine(HR _ (by unfold maxLen;omega)).mono ?_
   rintro e w1 ⟨rfl,rfl⟩
   go_wp2_with fail
   refine(hc _).mono ?_
   rintro e w2 ⟨rfl,rfl⟩
   go_wp2_with fail
   refine(wneed_false _ _).mono ?_
   rintro e w3 ⟨rfl,rfl⟩
   go_wp2
   exact⟨rfl,by rw[HW.out];rfl,(Below.refl _ _).alloc (Nat.le_refl _) _⟩
theorem wName_n {k:Int}{m:Nat}{l:List UInt8}:∀x,wName k m l= .ok x→x.2.2≤m+l.length:=by
 intro x h
 unfold wName at h
 split at h
 · cases h;have:=takeWhile_le namb l;simp only;omega
 · cases h
theorem wName_slot {l:List UInt8}{k:Int}{m:Nat}:wName k m l=match wName 1 0 l with | .ok x=>.ok (k,x.2.1,m+x.2.2) | .error n=>.error n:=by
 unfold wName
 split
 · simp
 · simp
theorem tail_dropW (t:ByteArray)(n:Nat):(t.extract n t.size).data.toList=t.data.toList.drop n:=by
 rw[Lib.extract_data]
 exact List.take_of_length_le (by simp)
theorem firstSlot_any (s:ByteArray)(w:World)(h1:0<s.size)(hs:s.size≤900):
 Calls Tryz.prog 88 #[.string s] w fun e w'=>e=endW (wName 4 1 (s.data.toList.drop 1))∧Below w.heap.size w w':=by
 have HX:=tail_dropW s 1
 have hxs:(s.extract 1 s.size).size=s.size-1:=by simp
 have i1:(1:Int)≤(s.size:Int):=by omega
 have HS:Hid (_=_):=wName_slot (l:=s.data.toList.drop 1) (k:=4) (m:=1)
 have hn:=fun w=>firstName_any (s.extract 1 s.size) w (by rw[hxs];omega)
 rw[HX]at hn
 have HB:=wName_n (k:=1) (m:=0) (l:=s.data.toList.drop 1)
 clear HX
 cases hR:wName 1 0 (s.data.toList.drop 1)with
 | error n=>
   rw[hR]at hn HS
   clear hR
   go_enter Tryz.func88,Tryz.ntmps88
   go_wp2_with fail
   refine(hn _).mono ?_
   rintro e w1 ⟨rfl,hb⟩
   unfold endW
   go_wp2
   refine⟨rfl,by rw[HS.out];rfl,?_⟩
   exact((Below.refl _ _).alloc (Nat.le_refl _) _).trans (hb.mono (by simp))
 | ok x=>
   obtain⟨k,t,n⟩:=x
   have hb0:=HB _ hR
   simp only[List.length_drop]at hb0
   have hnb:n≤900:=by simp at hb0;omega
   rw[hR]at hn HS
   clear hR HB hb0
   go_enter Tryz.func88,Tryz.ntmps88
   go_wp2_with fail
   refine(hn _).mono ?_
   rintro e w1 ⟨rfl,hb⟩
   have q0:∀o,w1.cell? ⟨w.heap.size,o,none⟩=_:=fun o=>hb.cell (p:=⟨w.heap.size,o,none⟩) (by simp)
   have qf:∀o,w1.frozen? ⟨w.heap.size,o,none⟩=_:=fun o=>hb.frozen (p:=⟨w.heap.size,o,none⟩) (by simp)
   have d0:w1.cell? ⟨w.heap.size,0,none⟩=some (.int .i64 0):=(q0 0).trans (by simp[go_sem])
   have d1:w1.cell? ⟨w.heap.size,1,none⟩=some (.string ⟨#[]⟩):=(q0 1).trans (by simp[go_sem])
   have d2:w1.cell? ⟨w.heap.size,2,none⟩=some (.int .i64 0):=(q0 2).trans (by simp[go_sem])
   have f0:w1.frozen? ⟨w.heap.size,0,none⟩=false:=(qf 0).trans (by simp[go_sem])
   have f1:w1.frozen? ⟨w.heap.size,1,none⟩=false:=(qf 1).trans (by simp[go_sem])
   have f2:w1.frozen? ⟨w.heap.size,2,none⟩=false:=(qf 2).trans (by simp[go_sem])
   have hbw:Below w.heap.size w w1:=((Below.refl _ _).alloc (Nat.le_refl _) _).trans (hb.mono (by simp))
   have hlt:w.heap.size<w1.heap.size:=by have:=hb.size;simp at this;omega
   clear q0 qf
   unfold endW
   simp only[]
   go_wp2
   refine bodyPost_ret (v:=.tuple #[.agg #[.int .i64 4,.string ⟨t.toArray⟩,.int .i64 0],.int .i64 (1+(n:Int))]) (by simp[results,Tryz.results88,go_sem,d0,d1,d2,hlt]) rfl ⟨by rw[HS.out];simp[endW],?_⟩
   exact(((hbw.setCell (Nat.le_refl _) _).setCell (Nat.le_refl _) _).setCell (Nat.le_refl _) _).alloc (by simp[World.setCell];omega) _
theorem dig0_eq:∀(l:List UInt8) (h:l≠[]),dig0 l=l.dropLast.dropWhile (· == 48)++[l.getLast h]
 | [],h=>absurd rfl h
 | [c],h=>by simp[dig0]
 | c::d::r,h=>by
   have ih:=dig0_eq (d::r) (by simp)
   unfold dig0
   have e:(c::d::r).dropLast=c::(d::r).dropLast:=rfl
   have e2:(c::d::r).getLast h=(d::r).getLast (by simp):=rfl
   rw[e,e2,List.dropWhile_cons]
   by_cases hc:c=48
   · subst hc
     rw[if_pos (by decide),if_pos (by decide),ih]
   · have h1:(c == 48)=false:=by simpa using hc
     have h2:(c.toNat == 48)=false:=by
      cases e:(c.toNat == 48)with
      | false=>rfl
      | true=>exact absurd (UInt8.toNat_inj.1 (by simpa using e)) hc
     rw[h2,h1]
     simp only[Bool.false_eq_true,if_false]
     rw[List.cons_append,List.dropLast_concat_getLast]
theorem digits_eq (s:ByteArray)(m:Nat)(h:m<s.size)(hr:runL digb s.data.toList=m+1):
 (s.extract 0 m).data.toList.dropWhile (· == 48)++(s.extract m (m+1)).data.toList=dig0 (s.data.toList.takeWhile digb):=by
 have hl:s.data.toList.length=s.size:=by simp
 have ht:s.data.toList.takeWhile digb=s.data.toList.take m++[s[m]]:=by
  rw[←runL_take,hr,take_snoc s m h]
 rw[dig0_eq _ (by rw[ht];simp)]
 have h1:(s.data.toList.takeWhile digb).dropLast=s.data.toList.take m:=by rw[ht];simp
 have h2:(s.extract m (m+1)).data.toList=[s[m]]:=by
  rw[Lib.extract_data,show m+1-m=1 by omega,List.drop_eq_getElem_cons (by omega)]
  rfl
 rw[h1,head_take,h2]
 congr 2
 simp only[ht,List.getLast_append,List.getLast_singleton]
 rfl
theorem firstNumber_any (s:ByteArray)(w:World)(m:Nat)(hr:runL digb s.data.toList=m+1)(hs:s.size≤900):
 Calls Tryz.prog 86 #[.string s] w fun e w'=>e=endW (wNum s.data.toList)∧Below w.heap.size w w':=by
 have hl:s.data.toList.length=s.size:=by simp
 have hm:m<s.size:=by have:=runL_le digb s.data.toList;omega
 have HD:Hid (_=_):=digits_eq s m hm hr
 have HR:=runDigit_any s
 rw[hr]at HR
 have HT:=trim_any (s.extract 0 m)
 obtain⟨d,HDD,hd⟩:∃d:ByteArray,Hid (d.data.toList=(s.extract 0 m).data.toList.dropWhile (· == 48))∧d=⟨((s.extract 0 m).data.toList.dropWhile (· == 48)).toArray⟩:=⟨⟨((s.extract 0 m).data.toList.dropWhile (· == 48)).toArray⟩,by show _=_;simp,rfl⟩
 rw[←hd]at HT
 have hds:d.size≤900:=by
  have h1:d.size=d.data.toList.length:=by simp
  have h2:=(List.dropWhile_sublist (· == 48) (l:=(s.extract 0 m).data.toList)).length_le
  rw[←HDD.out]at h2
  rw[head_take,List.length_take]at h2
  omega
 clear hd
 have hx:(s.extract m (m+1)).size=1:=by simp;omega
 have HC:Hid ((d++s.extract m (m+1)).data.toList=dig0 (s.data.toList.takeWhile digb)):=by
  show _=_
  rw[←HD.out,←HDD.out]
  simp
 have HN:Hid (runL digb s.data.toList=(s.data.toList.takeWhile digb).length):=rfl
 have hcs:(d++s.extract m (m+1)).size=d.size+1:=by rw[ByteArray.size_append,hx]
 have i1:(m:Int)+1≤(s.size:Int):=by omega
 have i2:(m:Int)≤(s.size:Int):=by omega
 have hwr:IntKind.i64.wrap (m:Int)=(m:Int):=IntWalk.i64_in _ (by omega)
 go_enter Tryz.func86,Tryz.ntmps86
 go_wp2_with fail
 refine(HR _ (by unfold maxLen;omega)).mono ?_
 rintro e w1 ⟨rfl,rfl⟩
 go_wp2_with fail
 have j1:(0:Int)≤(m:Int)+1:=by omega
 have j2:(m:Int)≤(m:Int)+1:=by omega
 have j3:¬ 9223372036854775807<d.size+1:=by omega
 go_quiet ((go_at_call 111;exact Calls.quiet_of_same (HT _)))
 generalize hE:d++s.extract m (m+1)=E at *
 have HE:Hid _:=hE
 clear hE
 by_cases h19:19<d.size+1
 · have HW:Hid (wNum s.data.toList= .error 4):=by
    show _=_
    unfold wNum
    rw[←HC.out,if_pos (by have:E.data.toList.length=E.size:=by simp
                          omega)]
   go_wp2_with fail
   rw[decide_eq_false (by omega)]
   refine(wneed_false _ _).mono ?_
   rintro e w3 ⟨rfl,rfl⟩
   go_wp2
   exact⟨rfl,by rw[HW.out];rfl,below_draws ((Below.refl _ _).alloc (Nat.le_refl _) _) _⟩
 · have HW:Hid (wNum s.data.toList= .ok (2,E.data.toList,m+1)):=by
    show _=_
    unfold wNum
    rw[←HC.out,if_neg (by have:E.data.toList.length=E.size:=by simp
                          omega),←HN.out,hr]
   go_wp2_with fail
   rw[decide_eq_true (by omega)]
   refine(wneed_true _ _).mono ?_
   rintro e w3 ⟨rfl,rfl⟩
   go_wp2_with fail
   refine(clone_any E _ (by omega)).mono ?_
   rintro e w4 ⟨rfl,hb⟩
   have q0:∀o,w4.cell? ⟨w.heap.size,o,none⟩=_:=fun o=>hb.cell (p:=⟨w.heap.size,o,none⟩) (by simp)
   have qf:∀o,w4.frozen? ⟨w.heap.size,o,none⟩=_:=fun o=>hb.frozen (p:=⟨w.heap.size,o,none⟩) (by simp)
   have d0:w4.cell? ⟨w.heap.size,0,none⟩=some (.int .i64 0):=(q0 0).trans (by simp[go_sem])
   have d1:w4.cell? ⟨w.heap.size,1,none⟩=some (.string ⟨#[]⟩):=(q0 1).trans (by simp[go_sem])
   have d2:w4.cell? ⟨w.heap.size,2,none⟩=some (.int .i64 0):=(q0 2).trans (by simp[go_sem])
   have f0:w4.frozen? ⟨w.heap.size,0,none⟩=false:=(qf 0).trans (by simp[go_sem])
   have f1:w4.frozen? ⟨w.heap.size,1,none⟩=false:=(qf 1).trans (by simp[go_sem])
   have f2:w4.frozen? ⟨w.heap.size,2,none⟩=false:=(qf 2).trans (by simp[go_sem])
   have hbw:Below w.heap.size w w4:=(below_draws ((Below.refl _ _).alloc (Nat.le_refl _) _) _).trans (hb.mono (by simp))
   clear q0 qf
   go_wp2
   refine bodyPost_ret (v:=.tuple #[.agg #[.int .i64 2,.string E,.int .i64 0],.int .i64 ((m:Int)+1)]) (by simp[results,Tryz.results86,go_sem,d0,d1,d2]) rfl ⟨?_,?_⟩
   · rw[HW.out]
     simp[endW]
   · exact((hbw.setCell (Nat.le_refl _) _).setCell (Nat.le_refl _) _).setCell (Nat.le_refl _) _
theorem any_one (s:ByteArray)(h:0<s.size):(s.data.toList.take 1).any (fun c=>shorts.contains c)=shorts.contains s[0]:=by
 have:s.data.toList.take 1=[s[0]]:=by
  have:=take_snoc s 0 h
  simpa using this
 rw[this];simp
theorem idx_short (c:UInt8):decide (0≤Lib.indexByte (⟨#[40,41,91,93,123,125,44,58,46,60,33,43,45,42]⟩:ByteArray).data.toList c)=shorts.contains c:=idx_has shorts c
theorem firstSign_any (s:ByteArray)(w:World)(h1:0<s.size)(hs:s.size≤900):
 Calls Tryz.prog 89 #[.string s] w fun e w'=>e=endW (wSign s.data.toList)∧Below w.heap.size w w':=by
 have hl:s.data.toList.length=s.size:=by simp
 have hone:=any_one s h1
 have HI:Hid (_=_):=idx_short s[0]
 have i1:(0:Int)<(s.size:Int):=by omega
 by_cases h2:s.size=1
 · have hmin:min (2:Int) (s.size:Int)=1:=by omega
   have htwo:two (s.data.toList.take 2)=false:=by
    cases e:two (s.data.toList.take 2)with
    | false=>rfl
    | true=>have:=two_len e;omega
   have hxl:(s.extract 0 1).toList.length=1:=by rw[ByteArray.toList_eq,head_take,List.length_take];omega
   have ne:∀a b:UInt8,((s.extract 0 1).toList == [a,b])=false:=by
    intro a b
    cases e:((s.extract 0 1).toList == [a,b])with
    | false=>rfl
    | true=>rw[beq_iff_eq.1 e]at hxl;simp at hxl
   have b1:=ne 58 58
   have b2:=ne 61 61
   have b3:=ne 60 61
   have b4:=ne 38 38
   have b5:=ne 124 124
   clear ne h2 hxl
   cases hsh:shorts.contains s[0]
   · have HW:Hid (wSign s.data.toList= .error 1):=by
      show _=_
      unfold wSign;rw[htwo,hone,hsh];rfl
     clear htwo hone
     rw[hsh]at HI
     go_enter Tryz.func89,Tryz.ntmps89
     go_wp2_with fail
     refine(idx_any _ _ _).mono ?_
     rintro e w1 ⟨rfl,rfl⟩
     go_wp2_with fail
     rw[HI.out]
     refine(wneed_false _ _).mono ?_
     rintro e w3 ⟨rfl,rfl⟩
     go_wp2
     exact⟨rfl,by rw[HW.out];rfl,(Below.refl _ _).alloc (Nat.le_refl _) _⟩
   · have HW:Hid (wSign s.data.toList= .ok (5,s.data.toList.take 1,1)):=by
      show _=_
      unfold wSign;rw[htwo,hone,hsh];rfl
     clear htwo hone
     rw[hsh]at HI
     have HX1:Hid ((s.extract 0 1).data.toList=s.data.toList.take 1):=head_take s 1
     have hx1:(s.extract 0 1).size=1:=by simp;omega
     have i3:(1:Int)≤(s.size:Int):=by omega
     go_enter Tryz.func89,Tryz.ntmps89
     go_wp2_with fail
     refine(idx_any _ _ _).mono ?_
     rintro e w1 ⟨rfl,rfl⟩
     go_wp2_with fail
     rw[HI.out]
     refine(wneed_true _ _).mono ?_
     rintro e w3 ⟨rfl,rfl⟩
     go_wp2_with fail
     refine(clone_any (s.extract 0 1) _ (by omega)).mono ?_
     rintro e w4 ⟨rfl,hb⟩
     have q0:∀o,w4.cell? ⟨w.heap.size,o,none⟩=_:=fun o=>hb.cell (p:=⟨w.heap.size,o,none⟩) (by simp)
     have qf:∀o,w4.frozen? ⟨w.heap.size,o,none⟩=_:=fun o=>hb.frozen (p:=⟨w.heap.size,o,none⟩) (by simp)
     have d0:w4.cell? ⟨w.heap.size,0,none⟩=some (.int .i64 0):=(q0 0).trans (by simp[go_sem])
     have d1:w4.cell? ⟨w.heap.size,1,none⟩=some (.string ⟨#[]⟩):=(q0 1).trans (by simp[go_sem])
     have d2:w4.cell? ⟨w.heap.size,2,none⟩=some (.int .i64 0):=(q0 2).trans (by simp[go_sem])
     have f0:w4.frozen? ⟨w.heap.size,0,none⟩=false:=(qf 0).trans (by simp[go_sem])
     have f1:w4.frozen? ⟨w.heap.size,1,none⟩=false:=(qf 1).trans (by simp[go_sem])
     have f2:w4.frozen? ⟨w.heap.size,2,none⟩=false:=(qf 2).trans (by simp[go_sem])
     have hbw:Below w.heap.size w w4:=((Below.refl _ _).alloc (Nat.le_refl _) _).trans (hb.mono (by simp))
     clear q0 qf
     go_wp2
     refine bodyPost_ret (v:=.tuple #[.agg #[.int .i64 5,.string (s.extract 0 1),.int .i64 0],.int .i64 1]) (by simp[results,Tryz.results89,go_sem,d0,d1,d2]) rfl ⟨?_,?_⟩
     · rw[HW.out,of_list HX1.out]
       rfl
     · exact((hbw.setCell (Nat.le_refl _) _).setCell (Nat.le_refl _) _).setCell (Nat.le_refl _) _
 · have hmin:min (2:Int) (s.size:Int)=2:=by omega
   have i2:(2:Int)≤(s.size:Int):=by omega
   have HX:Hid ((s.extract 0 2).data.toList=s.data.toList.take 2):=head_take s 2
   have hxs:(s.extract 0 2).size=2:=by simp;omega
   generalize hx:s.extract 0 2=x at *
   have HXl:Hid (s.data.toList.take 2=x.toList):=by show _=_;rw[ByteArray.toList_eq];exact HX.out.symm
   cases b1:(x.toList == [58,58])
   · skip
     cases b2:(x.toList == [61,61])
     · skip
       cases b3:(x.toList == [60,61])
       · skip
         cases b4:(x.toList == [38,38])
         · skip
           cases b5:(x.toList == [124,124])
           · skip
             have htwo:two (s.data.toList.take 2)=false:=by
              rw[HXl.out];unfold two;rw[b1,b2,b3,b4,b5];rfl
             cases hsh:shorts.contains s[0]
             · have HW:Hid (wSign s.data.toList= .error 1):=by
                show _=_
                unfold wSign;rw[htwo,hone,hsh];rfl
               clear htwo hone
               rw[hsh]at HI
               go_enter Tryz.func89,Tryz.ntmps89
               go_wp2_with fail
               refine(idx_any _ _ _).mono ?_
               rintro e w1 ⟨rfl,rfl⟩
               go_wp2_with fail
               rw[HI.out]
               refine(wneed_false _ _).mono ?_
               rintro e w3 ⟨rfl,rfl⟩
               go_wp2
               exact⟨rfl,by rw[HW.out];rfl,(Below.refl _ _).alloc (Nat.le_refl _) _⟩
             · have HW:Hid (wSign s.data.toList= .ok (5,s.data.toList.take 1,1)):=by
                show _=_
                unfold wSign;rw[htwo,hone,hsh];rfl
               clear htwo hone
               rw[hsh]at HI
               have HX1:Hid ((s.extract 0 1).data.toList=s.data.toList.take 1):=head_take s 1
               have hx1:(s.extract 0 1).size=1:=by simp;omega
               have i3:(1:Int)≤(s.size:Int):=by omega
               go_enter Tryz.func89,Tryz.ntmps89
               go_wp2_with fail
               refine(idx_any _ _ _).mono ?_
               rintro e w1 ⟨rfl,rfl⟩
               go_wp2_with fail
               rw[HI.out]
               refine(wneed_true _ _).mono ?_
               rintro e w3 ⟨rfl,rfl⟩
               go_wp2_with fail
               refine(clone_any (s.extract 0 1) _ (by omega)).mono ?_
               rintro e w4 ⟨rfl,hb⟩
               have q0:∀o,w4.cell? ⟨w.heap.size,o,none⟩=_:=fun o=>hb.cell (p:=⟨w.heap.size,o,none⟩) (by simp)
               have qf:∀o,w4.frozen? ⟨w.heap.size,o,none⟩=_:=fun o=>hb.frozen (p:=⟨w.heap.size,o,none⟩) (by simp)
               have d0:w4.cell? ⟨w.heap.size,0,none⟩=some (.int .i64 0):=(q0 0).trans (by simp[go_sem])
               have d1:w4.cell? ⟨w.heap.size,1,none⟩=some (.string ⟨#[]⟩):=(q0 1).trans (by simp[go_sem])
               have d2:w4.cell? ⟨w.heap.size,2,none⟩=some (.int .i64 0):=(q0 2).trans (by simp[go_sem])
               have f0:w4.frozen? ⟨w.heap.size,0,none⟩=false:=(qf 0).trans (by simp[go_sem])
               have f1:w4.frozen? ⟨w.heap.size,1,none⟩=false:=(qf 1).trans (by simp[go_sem])
               have f2:w4.frozen? ⟨w.heap.size,2,none⟩=false:=(qf 2).trans (by simp[go_sem])
               have hbw:Below w.heap.size w w4:=((Below.refl _ _).alloc (Nat.le_refl _) _).trans (hb.mono (by simp))
               clear q0 qf
               go_wp2
               refine bodyPost_ret (v:=.tuple #[.agg #[.int .i64 5,.string (s.extract 0 1),.int .i64 0],.int .i64 1]) (by simp[results,Tryz.results89,go_sem,d0,d1,d2]) rfl ⟨?_,?_⟩
               · rw[HW.out,of_list HX1.out]
                 rfl
               · exact((hbw.setCell (Nat.le_refl _) _).setCell (Nat.le_refl _) _).setCell (Nat.le_refl _) _
           · have HW:Hid (wSign s.data.toList= .ok (5,s.data.toList.take 2,2)):=by
              show _=_
              have htwo:two (s.data.toList.take 2)=true:=by
               rw[HXl.out];unfold two;rw[b1,b2,b3,b4,b5];simp
              unfold wSign;rw[htwo];rfl
             clear hone HI
             go_enter Tryz.func89,Tryz.ntmps89
             go_wp2_with fail
             refine(clone_any x _ (by omega)).mono ?_
             rintro e w4 ⟨rfl,hb⟩
             have q0:∀o,w4.cell? ⟨w.heap.size,o,none⟩=_:=fun o=>hb.cell (p:=⟨w.heap.size,o,none⟩) (by simp)
             have qf:∀o,w4.frozen? ⟨w.heap.size,o,none⟩=_:=fun o=>hb.frozen (p:=⟨w.heap.size,o,none⟩) (by simp)
             have d0:w4.cell? ⟨w.heap.size,0,none⟩=some (.int .i64 0):=(q0 0).trans (by simp[go_sem])
             have d1:w4.cell? ⟨w.heap.size,1,none⟩=some (.string ⟨#[]⟩):=(q0 1).trans (by simp[go_sem])
             have d2:w4.cell? ⟨w.heap.size,2,none⟩=some (.int .i64 0):=(q0 2).trans (by simp[go_sem])
             have f0:w4.frozen? ⟨w.heap.size,0,none⟩=false:=(qf 0).trans (by simp[go_sem])
             have f1:w4.frozen? ⟨w.heap.size,1,none⟩=false:=(qf 1).trans (by simp[go_sem])
             have f2:w4.frozen? ⟨w.heap.size,2,none⟩=false:=(qf 2).trans (by simp[go_sem])
             have hbw:Below w.heap.size w w4:=((Below.refl _ _).alloc (Nat.le_refl _) _).trans (hb.mono (by simp))
             clear q0 qf
             go_wp2
             refine bodyPost_ret (v:=.tuple #[.agg #[.int .i64 5,.string x,.int .i64 0],.int .i64 2]) (by simp[results,Tryz.results89,go_sem,d0,d1,d2]) rfl ⟨?_,?_⟩
             · rw[HW.out,of_list HX.out]
               rfl
             · exact((hbw.setCell (Nat.le_refl _) _).setCell (Nat.le_refl _) _).setCell (Nat.le_refl _) _
         · have HW:Hid (wSign s.data.toList= .ok (5,s.data.toList.take 2,2)):=by
            show _=_
            have htwo:two (s.data.toList.take 2)=true:=by
             rw[HXl.out];unfold two;rw[b1,b2,b3,b4];simp
            unfold wSign;rw[htwo];rfl
           clear hone HI
           go_enter Tryz.func89,Tryz.ntmps89
           go_wp2_with fail
           refine(clone_any x _ (by omega)).mono ?_
           rintro e w4 ⟨rfl,hb⟩
           have q0:∀o,w4.cell? ⟨w.heap.size,o,none⟩=_:=fun o=>hb.cell (p:=⟨w.heap.size,o,none⟩) (by simp)
           have qf:∀o,w4.frozen? ⟨w.heap.size,o,none⟩=_:=fun o=>hb.frozen (p:=⟨w.heap.size,o,none⟩) (by simp)
           have d0:w4.cell? ⟨w.heap.size,0,none⟩=some (.int .i64 0):=(q0 0).trans (by simp[go_sem])
           have d1:w4.cell? ⟨w.heap.size,1,none⟩=some (.string ⟨#[]⟩):=(q0 1).trans (by simp[go_sem])
           have d2:w4.cell? ⟨w.heap.size,2,none⟩=some (.int .i64 0):=(q0 2).trans (by simp[go_sem])
           have f0:w4.frozen? ⟨w.heap.size,0,none⟩=false:=(qf 0).trans (by simp[go_sem])
           have f1:w4.frozen? ⟨w.heap.size,1,none⟩=false:=(qf 1).trans (by simp[go_sem])
           have f2:w4.frozen? ⟨w.heap.size,2,none⟩=false:=(qf 2).trans (by simp[go_sem])
           have hbw:Below w.heap.size w w4:=((Below.refl _ _).alloc (Nat.le_refl _) _).trans (hb.mono (by simp))
           clear q0 qf
           go_wp2
           refine bodyPost_ret (v:=.tuple #[.agg #[.int .i64 5,.string x,.int .i64 0],.int .i64 2]) (by simp[results,Tryz.results89,go_sem,d0,d1,d2]) rfl ⟨?_,?_⟩
           · rw[HW.out,of_list HX.out]
             rfl
           · exact((hbw.setCell (Nat.le_refl _) _).setCell (Nat.le_refl _) _).setCell (Nat.le_refl _) _
       · have HW:Hid (wSign s.data.toList= .ok (5,s.data.toList.take 2,2)):=by
          show _=_
          have htwo:two (s.data.toList.take 2)=true:=by
           rw[HXl.out];unfold two;rw[b1,b2,b3];simp
          unfold wSign;rw[htwo];rfl
         clear hone HI
         go_enter Tryz.func89,Tryz.ntmps89
         go_wp2_with fail
         refine(clone_any x _ (by omega)).mono ?_
         rintro e w4 ⟨rfl,hb⟩
         have q0:∀o,w4.cell? ⟨w.heap.size,o,none⟩=_:=fun o=>hb.cell (p:=⟨w.heap.size,o,none⟩) (by simp)
         have qf:∀o,w4.frozen? ⟨w.heap.size,o,none⟩=_:=fun o=>hb.frozen (p:=⟨w.heap.size,o,none⟩) (by simp)
         have d0:w4.cell? ⟨w.heap.size,0,none⟩=some (.int .i64 0):=(q0 0).trans (by simp[go_sem])
         have d1:w4.cell? ⟨w.heap.size,1,none⟩=some (.string ⟨#[]⟩):=(q0 1).trans (by simp[go_sem])
         have d2:w4.cell? ⟨w.heap.size,2,none⟩=some (.int .i64 0):=(q0 2).trans (by simp[go_sem])
         have f0:w4.frozen? ⟨w.heap.size,0,none⟩=false:=(qf 0).trans (by simp[go_sem])
         have f1:w4.frozen? ⟨w.heap.size,1,none⟩=false:=(qf 1).trans (by simp[go_sem])
         have f2:w4.frozen? ⟨w.heap.size,2,none⟩=false:=(qf 2).trans (by simp[go_sem])
         have hbw:Below w.heap.size w w4:=((Below.refl _ _).alloc (Nat.le_refl _) _).trans (hb.mono (by simp))
         clear q0 qf
         go_wp2
         refine bodyPost_ret (v:=.tuple #[.agg #[.int .i64 5,.string x,.int .i64 0],.int .i64 2]) (by simp[results,Tryz.results89,go_sem,d0,d1,d2]) rfl ⟨?_,?_⟩
         · rw[HW.out,of_list HX.out]
           rfl
         · exact((hbw.setCell (Nat.le_refl _) _).setCell (Nat.le_refl _) _).setCell (Nat.le_refl _) _
     · have HW:Hid (wSign s.data.toList= .ok (5,s.data.toList.take 2,2)):=by
        show _=_
        have htwo:two (s.data.toList.take 2)=true:=by
         rw[HXl.out];unfold two;rw[b1,b2];simp
        unfold wSign;rw[htwo];rfl
       clear hone HI
       go_enter Tryz.func89,Tryz.ntmps89
       go_wp2_with fail
       refine(clone_any x _ (by omega)).mono ?_
       rintro e w4 ⟨rfl,hb⟩
       have q0:∀o,w4.cell? ⟨w.heap.size,o,none⟩=_:=fun o=>hb.cell (p:=⟨w.heap.size,o,none⟩) (by simp)
       have qf:∀o,w4.frozen? ⟨w.heap.size,o,none⟩=_:=fun o=>hb.frozen (p:=⟨w.heap.size,o,none⟩) (by simp)
       have d0:w4.cell? ⟨w.heap.size,0,none⟩=some (.int .i64 0):=(q0 0).trans (by simp[go_sem])
       have d1:w4.cell? ⟨w.heap.size,1,none⟩=some (.string ⟨#[]⟩):=(q0 1).trans (by simp[go_sem])
       have d2:w4.cell? ⟨w.heap.size,2,none⟩=some (.int .i64 0):=(q0 2).trans (by simp[go_sem])
       have f0:w4.frozen? ⟨w.heap.size,0,none⟩=false:=(qf 0).trans (by simp[go_sem])
       have f1:w4.frozen? ⟨w.heap.size,1,none⟩=false:=(qf 1).trans (by simp[go_sem])
       have f2:w4.frozen? ⟨w.heap.size,2,none⟩=false:=(qf 2).trans (by simp[go_sem])
       have hbw:Below w.heap.size w w4:=((Below.refl _ _).alloc (Nat.le_refl _) _).trans (hb.mono (by simp))
       clear q0 qf
       go_wp2
       refine bodyPost_ret (v:=.tuple #[.agg #[.int .i64 5,.string x,.int .i64 0],.int .i64 2]) (by simp[results,Tryz.results89,go_sem,d0,d1,d2]) rfl ⟨?_,?_⟩
       · rw[HW.out,of_list HX.out]
         rfl
       · exact((hbw.setCell (Nat.le_refl _) _).setCell (Nat.le_refl _) _).setCell (Nat.le_refl _) _
   · have HW:Hid (wSign s.data.toList= .ok (5,s.data.toList.take 2,2)):=by
      show _=_
      have htwo:two (s.data.toList.take 2)=true:=by
       rw[HXl.out];unfold two;rw[b1];simp
      unfold wSign;rw[htwo];rfl
     clear hone HI
     go_enter Tryz.func89,Tryz.ntmps89
     go_wp2_with fail
     refine(clone_any x _ (by omega)).mono ?_
     rintro e w4 ⟨rfl,hb⟩
     have q0:∀o,w4.cell? ⟨w.heap.size,o,none⟩=_:=fun o=>hb.cell (p:=⟨w.heap.size,o,none⟩) (by simp)
     have qf:∀o,w4.frozen? ⟨w.heap.size,o,none⟩=_:=fun o=>hb.frozen (p:=⟨w.heap.size,o,none⟩) (by simp)
     have d0:w4.cell? ⟨w.heap.size,0,none⟩=some (.int .i64 0):=(q0 0).trans (by simp[go_sem])
     have d1:w4.cell? ⟨w.heap.size,1,none⟩=some (.string ⟨#[]⟩):=(q0 1).trans (by simp[go_sem])
     have d2:w4.cell? ⟨w.heap.size,2,none⟩=some (.int .i64 0):=(q0 2).trans (by simp[go_sem])
     have f0:w4.frozen? ⟨w.heap.size,0,none⟩=false:=(qf 0).trans (by simp[go_sem])
     have f1:w4.frozen? ⟨w.heap.size,1,none⟩=false:=(qf 1).trans (by simp[go_sem])
     have f2:w4.frozen? ⟨w.heap.size,2,none⟩=false:=(qf 2).trans (by simp[go_sem])
     have hbw:Below w.heap.size w w4:=((Below.refl _ _).alloc (Nat.le_refl _) _).trans (hb.mono (by simp))
     clear q0 qf
     go_wp2
     refine bodyPost_ret (v:=.tuple #[.agg #[.int .i64 5,.string x,.int .i64 0],.int .i64 2]) (by simp[results,Tryz.results89,go_sem,d0,d1,d2]) rfl ⟨?_,?_⟩
     · rw[HW.out,of_list HX.out]
       rfl
     · exact((hbw.setCell (Nat.le_refl _) _).setCell (Nat.le_refl _) _).setCell (Nat.le_refl _) _
theorem run_pos {p:UInt8→Bool}(s:ByteArray)(h:0<s.size)(hp:p s[0]=true):∃m,runL p s.data.toList=m+1:=by
 have e:s.data.toList=s[0]::s.data.toList.drop 1:=by simpa using drop_at s 0 h
 unfold runL
 rw[e,List.takeWhile_cons,if_pos hp]
 exact⟨_,rfl⟩
theorem first_any (s:ByteArray)(w:World)(h1:0<s.size)(hs:s.size≤900):
 Calls Tryz.prog 58 #[.string s] w fun e w'=>e=endW (word1 s.data.toList)∧Below w.heap.size w w':=by
 have HL:s.data.toList=s[0]::s.data.toList.drop 1:=by simpa using drop_at s 0 h1
 have HW:word1 s.data.toList=_:=(congrArg word1 HL).trans (word1_cons _ _)
 rw[←HL]at HW
 have i1:(0:Int)<(s.size:Int):=by omega
 cases c1:letb s[0]
 · rw[c1]at HW
   simp only[Bool.false_eq_true,if_false]at HW
   cases c2:digb s[0]
   · rw[c2]at HW
     simp only[Bool.false_eq_true,if_false]at HW
     cases c3:(s[0].toNat == 34)
     · rw[c3]at HW
       simp only[Bool.false_eq_true,if_false]at HW
       have n3:((s[0].toNat:Int) == 34)=false:=by simp at c3 ⊢; omega
       cases c4:(s[0].toNat == 63)
       · rw[c4]at HW
         simp only[Bool.false_eq_true,if_false]at HW
         have n4:((s[0].toNat:Int) == 63)=false:=by simp at c4 ⊢; omega
         clear c3 c4
         cases hR:word1 s.data.toList with
         | error n=>
           have H1:=firstSign_any s (w.alloc (.cells #[.int .i64 0,.string ⟨#[]⟩,.int .i64 0] 78)) h1 hs
           rw[←HW,hR]at H1
           clear hR HL HW
           unfold endW at H1 ⊢
           go_enter Tryz.func58,Tryz.ntmps58
           go_wp2_with (first | (go_at_call 83;refine(wLetter_any _ _).mono ?_;rintro e w' ⟨rfl,rfl⟩;rw[c1]) | (go_at_call 85;refine(wDigit_any _ _).mono ?_;rintro e w' ⟨rfl,rfl⟩;rw[c2]) | (go_at_call 89;refine H1.mono ?_;rintro e w1 ⟨rfl,hb⟩))
           exact⟨rfl,rfl,((Below.refl _ _).alloc (Nat.le_refl _) _).trans (hb.mono (by simp))⟩
         | ok x=>
           obtain⟨k,t,n⟩:=x
           have H1:=firstSign_any s (w.alloc (.cells #[.int .i64 0,.string ⟨#[]⟩,.int .i64 0] 78)) h1 hs
           rw[←HW,hR]at H1
           clear hR HL HW
           unfold endW at H1 ⊢
           simp only[]at H1 ⊢
           go_enter Tryz.func58,Tryz.ntmps58
           go_wp2_with (first | (go_at_call 83;refine(wLetter_any _ _).mono ?_;rintro e w' ⟨rfl,rfl⟩;rw[c1]) | (go_at_call 85;refine(wDigit_any _ _).mono ?_;rintro e w' ⟨rfl,rfl⟩;rw[c2]) | (go_at_call 89;refine H1.mono ?_;rintro e w1 ⟨rfl,hb⟩;obtain⟨d0,d1,d2,f0,f1,f2,hbw⟩:=tok_kept hb))
           refine bodyPost_ret (v:=.tuple #[.agg #[.int .i64 k,.string ⟨t.toArray⟩,.int .i64 0],.int .i64 n]) (by simp[results,Tryz.results58,go_sem,d0,d1,d2]) rfl ⟨rfl,?_⟩
           exact((hbw.setCell (Nat.le_refl _) _).setCell (Nat.le_refl _) _).setCell (Nat.le_refl _) _
       · rw[c4]at HW
         simp only[if_true]at HW
         have n4:((s[0].toNat:Int) == 63)=true:=by simp at c4 ⊢; omega
         clear c3 c4
         cases hR:word1 s.data.toList with
         | error n=>
           have H1:=firstSlot_any s (w.alloc (.cells #[.int .i64 0,.string ⟨#[]⟩,.int .i64 0] 78)) h1 hs
           rw[←HW,hR]at H1
           clear hR HL HW
           unfold endW at H1 ⊢
           go_enter Tryz.func58,Tryz.ntmps58
           go_wp2_with (first | (go_at_call 83;refine(wLetter_any _ _).mono ?_;rintro e w' ⟨rfl,rfl⟩;rw[c1]) | (go_at_call 85;refine(wDigit_any _ _).mono ?_;rintro e w' ⟨rfl,rfl⟩;rw[c2]) | (go_at_call 88;refine H1.mono ?_;rintro e w1 ⟨rfl,hb⟩))
           exact⟨rfl,rfl,((Below.refl _ _).alloc (Nat.le_refl _) _).trans (hb.mono (by simp))⟩
         | ok x=>
           obtain⟨k,t,n⟩:=x
           have H1:=firstSlot_any s (w.alloc (.cells #[.int .i64 0,.string ⟨#[]⟩,.int .i64 0] 78)) h1 hs
           rw[←HW,hR]at H1
           clear hR HL HW
           unfold endW at H1 ⊢
           simp only[]at H1 ⊢
           go_enter Tryz.func58,Tryz.ntmps58
           go_wp2_with (first | (go_at_call 83;refine(wLetter_any _ _).mono ?_;rintro e w' ⟨rfl,rfl⟩;rw[c1]) | (go_at_call 85;refine(wDigit_any _ _).mono ?_;rintro e w' ⟨rfl,rfl⟩;rw[c2]) | (go_at_call 88;refine H1.mono ?_;rintro e w1 ⟨rfl,hb⟩;obtain⟨d0,d1,d2,f0,f1,f2,hbw⟩:=tok_kept hb))
           refine bodyPost_ret (v:=.tuple #[.agg #[.int .i64 k,.string ⟨t.toArray⟩,.int .i64 0],.int .i64 n]) (by simp[results,Tryz.results58,go_sem,d0,d1,d2]) rfl ⟨rfl,?_⟩
           exact((hbw.setCell (Nat.le_refl _) _).setCell (Nat.le_refl _) _).setCell (Nat.le_refl _) _
     · rw[c3]at HW
       simp only[if_true]at HW
       have n3:((s[0].toNat:Int) == 34)=true:=by simp at c3 ⊢; omega
       clear c3
       cases hR:word1 s.data.toList with
       | error n=>
         have H1:=firstQuoted_any s (w.alloc (.cells #[.int .i64 0,.string ⟨#[]⟩,.int .i64 0] 78)) h1 hs
         rw[←HW,hR]at H1
         clear hR HL HW
         unfold endW at H1 ⊢
         go_enter Tryz.func58,Tryz.ntmps58
         go_wp2_with (first | (go_at_call 83;refine(wLetter_any _ _).mono ?_;rintro e w' ⟨rfl,rfl⟩;rw[c1]) | (go_at_call 85;refine(wDigit_any _ _).mono ?_;rintro e w' ⟨rfl,rfl⟩;rw[c2]) | (go_at_call 87;refine H1.mono ?_;rintro e w1 ⟨rfl,hb⟩))
         exact⟨rfl,rfl,((Below.refl _ _).alloc (Nat.le_refl _) _).trans (hb.mono (by simp))⟩
       | ok x=>
         obtain⟨k,t,n⟩:=x
         have H1:=firstQuoted_any s (w.alloc (.cells #[.int .i64 0,.string ⟨#[]⟩,.int .i64 0] 78)) h1 hs
         rw[←HW,hR]at H1
         clear hR HL HW
         unfold endW at H1 ⊢
         simp only[]at H1 ⊢
         go_enter Tryz.func58,Tryz.ntmps58
         go_wp2_with (first | (go_at_call 83;refine(wLetter_any _ _).mono ?_;rintro e w' ⟨rfl,rfl⟩;rw[c1]) | (go_at_call 85;refine(wDigit_any _ _).mono ?_;rintro e w' ⟨rfl,rfl⟩;rw[c2]) | (go_at_call 87;refine H1.mono ?_;rintro e w1 ⟨rfl,hb⟩;obtain⟨d0,d1,d2,f0,f1,f2,hbw⟩:=tok_kept hb))
         refine bodyPost_ret (v:=.tuple #[.agg #[.int .i64 k,.string ⟨t.toArray⟩,.int .i64 0],.int .i64 n]) (by simp[results,Tryz.results58,go_sem,d0,d1,d2]) rfl ⟨rfl,?_⟩
         exact((hbw.setCell (Nat.le_refl _) _).setCell (Nat.le_refl _) _).setCell (Nat.le_refl _) _
   · rw[c2]at HW
     simp only[if_true]at HW
     obtain⟨m,hm⟩:=run_pos s h1 c2
     cases hR:word1 s.data.toList with
     | error n=>
       have H1:=firstNumber_any s (w.alloc (.cells #[.int .i64 0,.string ⟨#[]⟩,.int .i64 0] 78)) m hm hs
       rw[←HW,hR]at H1
       clear hR HL HW
       unfold endW at H1 ⊢
       go_enter Tryz.func58,Tryz.ntmps58
       go_wp2_with (first | (go_at_call 83;refine(wLetter_any _ _).mono ?_;rintro e w' ⟨rfl,rfl⟩;rw[c1]) | (go_at_call 85;refine(wDigit_any _ _).mono ?_;rintro e w' ⟨rfl,rfl⟩;rw[c2]) | (go_at_call 86;refine H1.mono ?_;rintro e w1 ⟨rfl,hb⟩))
       exact⟨rfl,rfl,((Below.refl _ _).alloc (Nat.le_refl _) _).trans (hb.mono (by simp))⟩
     | ok x=>
       obtain⟨k,t,n⟩:=x
       have H1:=firstNumber_any s (w.alloc (.cells #[.int .i64 0,.string ⟨#[]⟩,.int .i64 0] 78)) m hm hs
       rw[←HW,hR]at H1
       clear hR HL HW
       unfold endW at H1 ⊢
       simp only[]at H1 ⊢
       go_enter Tryz.func58,Tryz.ntmps58
       go_wp2_with (first | (go_at_call 83;refine(wLetter_any _ _).mono ?_;rintro e w' ⟨rfl,rfl⟩;rw[c1]) | (go_at_call 85;refine(wDigit_any _ _).mono ?_;rintro e w' ⟨rfl,rfl⟩;rw[c2]) | (go_at_call 86;refine H1.mono ?_;rintro e w1 ⟨rfl,hb⟩;obtain⟨d0,d1,d2,f0,f1,f2,hbw⟩:=tok_kept hb))
       refine bodyPost_ret (v:=.tuple #[.agg #[.int .i64 k,.string ⟨t.toArray⟩,.int .i64 0],.int .i64 n]) (by simp[results,Tryz.results58,go_sem,d0,d1,d2]) rfl ⟨rfl,?_⟩
       exact((hbw.setCell (Nat.le_refl _) _).setCell (Nat.le_refl _) _).setCell (Nat.le_refl _) _
 · rw[c1]at HW
   simp only[if_true]at HW
   cases hR:word1 s.data.toList with
   | error n=>
     have H1:=firstName_any s (w.alloc (.cells #[.int .i64 0,.string ⟨#[]⟩,.int .i64 0] 78)) hs
     rw[←HW,hR]at H1
     clear hR HL HW
     unfold endW at H1 ⊢
     go_enter Tryz.func58,Tryz.ntmps58
     go_wp2_with (first | (go_at_call 83;refine(wLetter_any _ _).mono ?_;rintro e w' ⟨rfl,rfl⟩;rw[c1]) | (go_at_call 84;refine H1.mono ?_;rintro e w1 ⟨rfl,hb⟩))
     exact⟨rfl,rfl,((Below.refl _ _).alloc (Nat.le_refl _) _).trans (hb.mono (by simp))⟩
   | ok x=>
     obtain⟨k,t,n⟩:=x
     have H1:=firstName_any s (w.alloc (.cells #[.int .i64 0,.string ⟨#[]⟩,.int .i64 0] 78)) hs
     rw[←HW,hR]at H1
     clear hR HL HW
     unfold endW at H1 ⊢
     simp only[]at H1 ⊢
     go_enter Tryz.func58,Tryz.ntmps58
     go_wp2_with (first | (go_at_call 83;refine(wLetter_any _ _).mono ?_;rintro e w' ⟨rfl,rfl⟩;rw[c1]) | (go_at_call 84;refine H1.mono ?_;rintro e w1 ⟨rfl,hb⟩;obtain⟨d0,d1,d2,f0,f1,f2,hbw⟩:=tok_kept hb))
     refine bodyPost_ret (v:=.tuple #[.agg #[.int .i64 k,.string ⟨t.toArray⟩,.int .i64 0],.int .i64 n]) (by simp[results,Tryz.results58,go_sem,d0,d1,d2]) rfl ⟨rfl,?_⟩
     exact((hbw.setCell (Nat.le_refl _) _).setCell (Nat.le_refl _) _).setCell (Nat.le_refl _) _
theorem wcatch_idle (p q:Addr)(w:World):
 CallsD Tryz.prog 55 #[.pointer (some p),.pointer (some q)] .returning w fun e u' w'=>e= .returned (.tuple #[])∧u'= .returning∧w'=w:=by
 refine callsD_of_wpS Tryz.func55 rfl fun c₀ cs hu=>?_
 apply wpS_seq
 apply wpS_region
 simp[wpOpsS,go_sem,recoverD,hu,Tryz.ntmps55,Exit.thenS]
 refine wpS_of_wp ?_
 go_wp2
 cases c₀
 simp_all [bodyPostS,results,Tryz.results55]
theorem wcatch_thrown (n:Int)(B:Nat)(w:World)(u0 u1:Value)(h0:w.cell? ⟨B,0,none⟩=some u0)(z0:w.frozen? ⟨B,0,none⟩=false)(h1:w.cell? ⟨B+1,0,none⟩=some u1)(z1:w.frozen? ⟨B+1,0,none⟩=false)(hs:B+2≤w.heap.size):
 CallsD Tryz.prog 55 #[.pointer (some ⟨B,0,none⟩),.pointer (some ⟨B+1,0,none⟩)] (.panicking (thrownW n)) w fun e u' w'=>e= .returned (.tuple #[])∧u'= .panicking [{ v:=.iface 106 (.agg #[.iface 41 (.int .i64 n)]),recovered:=true }]∧
  w'.cell? ⟨B,0,none⟩=some (.slice none 0 0)∧w'.cell? ⟨B+1,0,none⟩=some (.iface 41 (.int .i64 n))∧Below B w w':=by
 have hta:∀w:World,Sem.run Tryz.prog (Instr.typeAssert (.iface 106 (.agg #[.iface 41 (.int .i64 n)])) 20 106 true) w= .ok (.tuple #[.agg #[.iface 41 (.int .i64 n)],.bool true]) w:=fun _=>by kernel_rfl
 refine callsD_of_wpS Tryz.func55 rfl fun c₀ cs hu=>?_
 unfold thrownW at hu
 apply wpS_seq
 apply wpS_region
 simp[wpOpsS,go_sem,recoverD,hu,Tryz.ntmps55,Exit.thenS]
 have e:∀p q X:Value, #[p,q]++(Array.replicate 11 undef).setIfInBounds 3 X= #[p,q,undef,undef,undef,X,undef,undef,undef,undef,undef,undef,undef]:=fun _ _ _=>rfl
 rw[e]
 refine wpS_of_wp ?_
 go_wp2_with fail
 have hbA:Below w.heap.size w (w.alloc (.cells #[.iface 41 (.int .i64 n)] 106)):=(Below.refl _ _).alloc (Nat.le_refl _) _
 have a0:=(hbA.cell (p:=⟨B,0,none⟩) (by show B<_;omega)).trans h0
 have a1:=(hbA.cell (p:=⟨B+1,0,none⟩) (by show B+1<_;omega)).trans h1
 have y0:=(hbA.frozen (p:=⟨B,0,none⟩) (by show B<_;omega)).trans z0
 have y1:=(hbA.frozen (p:=⟨B+1,0,none⟩) (by show B+1<_;omega)).trans z1
 have a2:(w.alloc (.cells #[.iface 41 (.int .i64 n)] 106)).cell? ⟨w.heap.size,0,none⟩=some (.iface 41 (.int .i64 n)):=by simp[go_sem]
 have ne0:(⟨B,0,none⟩:Addr)≠⟨w.heap.size,0,none⟩:=by intro hh;injection hh;omega
 have ne1:(⟨B,0,none⟩:Addr)≠⟨B+1,0,none⟩:=by intro hh;injection hh;omega
 have a3:=(World.cell?_setCell_other (w.alloc (.cells #[.iface 41 (.int .i64 n)] 106)) _ _ (.slice none 0 0) ne0).trans a2
 have a4:=(World.cell?_setCell_other (w.alloc (.cells #[.iface 41 (.int .i64 n)] 106)) _ _ (.slice none 0 0) ne1).trans a1
 have hbB:Below B w (w.alloc (.cells #[.iface 41 (.int .i64 n)] 106)):=hbA.mono (by omega)
 clear hbA
 generalize w.alloc (.cells #[.iface 41 (.int .i64 n)] 106)=w1 at *
 go_region
 all_goals go_wp2
 have k0:((w1.setCell ⟨B,0,none⟩ (.slice none 0 0)).setCell ⟨B+1,0,none⟩ (.iface 41 (.int .i64 n))).drew.cell? ⟨B,0,none⟩=some (.slice none 0 0):=
  (World.cell?_setCell_other _ _ _ _ ne1.symm).trans (World.cell?_setCell_same _ _ _ a0)
 have k1:((w1.setCell ⟨B,0,none⟩ (.slice none 0 0)).setCell ⟨B+1,0,none⟩ (.iface 41 (.int .i64 n))).drew.cell? ⟨B+1,0,none⟩=some (.iface 41 (.int .i64 n)):=
  World.cell?_setCell_same _ _ _ a4
 have k2:Below B w ((w1.setCell ⟨B,0,none⟩ (.slice none 0 0)).setCell ⟨B+1,0,none⟩ (.iface 41 (.int .i64 n))).drew:=
  ((hbB.setCell (Nat.le_refl _) _).setCell (by show B≤B+1;omega) _).drew
 clear hbB a0 a1 a2 a3 a4 y0 y1 h0 h1 z0 z1 hta
 generalize ((w1.setCell ⟨B,0,none⟩ (.slice none 0 0)).setCell ⟨B+1,0,none⟩ (.iface 41 (.int .i64 n))).drew=w9 at *
 cases c₀
 simp_all [bodyPostS,results,Tryz.results55]
def ReadPost (N:Nat)(R:Except (Int×Nat) (List Tk))(e:Ending)(w':World):Prop:=
 match R with
 | .ok ts=>∃q c,e= .returned (.tuple #[.slice q ts.length c,.int .i64 0,.nilIface])∧TKL w' q ts∧ts.length≤c∧c≤maxLen∧∀a,q=some a→N≤a.block
 | .error x=>e= .returned (.tuple #[.slice none 0 0,.int .i64 x.2,.iface 41 (.int .i64 x.1)])
structure WK (w wr:World)(B:Nat)(acc:List Tk):Prop where
 bel:Below B w wr
 size:B+2≤wr.heap.size
 row:∃v,wr.cell? ⟨B,0,none⟩=some v∧OTk wr (B+2) v acc
 rowf:wr.frozen? ⟨B,0,none⟩=false
 err:wr.cell? ⟨B+1,0,none⟩=some .nilIface
 errf:wr.frozen? ⟨B+1,0,none⟩=false
theorem WK.up {w wr w':World}{B:Nat}{acc:List Tk}(h:WK w wr B acc)(k:Below wr.heap.size wr w'):WK w w' B acc where
 bel:=h.bel.trans (k.mono (by have:=h.size;omega))
 size:=Nat.le_trans h.size k.size
 row:=by
  obtain⟨v,h1,h2⟩:=h.row
  exact⟨v,(k.cell (p:=⟨B,0,none⟩) (by have:=h.size;show B<_;omega)).trans h1,h2.below k⟩
 rowf:=(k.frozen (p:=⟨B,0,none⟩) (by have:=h.size;show B<_;omega)).trans h.rowf
 err:=(k.cell (p:=⟨B+1,0,none⟩) (by have:=h.size;show B+1<_;omega)).trans h.err
 errf:=(k.frozen (p:=⟨B+1,0,none⟩) (by have:=h.size;show B+1<_;omega)).trans h.errf
theorem WK.grow {w wr w1:World}{B:Nat}{acc m:List Tk}{v:Value}(h:WK w wr B acc)(hb:Below (B+2) wr w1)(hown:OTk w1 (B+2) v m):WK w (w1.setCell ⟨B,0,none⟩ v) B m where
 bel:=(h.bel.trans (hb.mono (by omega))).setCell (Nat.le_refl _) _
 size:=by have:=h.size;have:=hb.size;simp[World.setCell];omega
 row:=by
  obtain⟨u,h1,h2⟩:=h.row
  exact⟨v,World.cell?_setCell_same _ _ _ ((hb.cell (p:=⟨B,0,none⟩) (by show B<B+2;omega)).trans h1),hown.set (by show B<B+2;omega) _⟩
 rowf:=by
  have:=(hb.frozen (p:=⟨B,0,none⟩) (by show B<B+2;omega)).trans h.rowf
  simpa using this
 err:=((World.cell?_setCell_other _ _ _ _ (by simp)).trans (hb.cell (p:=⟨B+1,0,none⟩) (by show B+1<B+2;omega))).trans h.err
 errf:=by
  have:=(hb.frozen (p:=⟨B+1,0,none⟩) (by show B+1<B+2;omega)).trans h.errf
  simpa using this
theorem wk_start (w:World):WK w ((w.alloc (.cells #[.slice none 0 0] 49)).alloc (.cells #[.nilIface] 30)) w.heap.size [] where
 bel:=((Below.refl _ _).alloc (Nat.le_refl _) _).alloc (by simp) _
 size:=by simp
 row:=⟨.slice none 0 0,by simp[go_sem],OTk.nil _ _⟩
 rowf:=by simp[go_sem]
 err:=by simp[go_sem]
 errf:=by simp[go_sem]
theorem wwalk_any (s:ByteArray)(w:World)(hs:s.size≤900):
 Calls Tryz.prog 33 #[.string s] w fun e w'=>ReadPost w.heap.size (wds s.data.toList [] 0) e w'∧Below w.heap.size w w':=by
 have hl:s.data.toList.length=s.size:=by simp
 have hmf:∀(fn:Fn) (first cap:Array Value) (w:World),(Instr.makeFunc fn first cap).run Tryz.prog w= .ok (.func fn first cap) w:=fun _ _ _ _=>rfl
 have HK:=wk_start w
 generalize hw0:(w.alloc (.cells #[.slice none 0 0] 49)).alloc (.cells #[.nilIface] 30)=w0 at HK
 have HR0:=runBlank_any s
 have hk0:=runL_le blankb s.data.toList
 rw[wds_run]
 have HN0:=run_next s.data.toList
 generalize runL blankb s.data.toList=k0 at *
 generalize hR:wds (s.data.toList.drop k0) [] (0+k0)=R
 have HR:Hid (wds (s.data.toList.drop k0) [] k0=R):=by rw[←hR];show _=_;rw[Nat.zero_add]
 clear hR
 go_enter_defers Tryz.func33,Tryz.ntmps33
 go_wp2_with fail
 refine(HR0 _ (by unfold maxLen;omega)).mono ?_
 rintro e w1 ⟨rfl,rfl⟩
 go_wp2_with fail
 go_loopw [3] (fun a wr=>∃(k:Nat) (acc:List Tk),k≤s.size∧a= .int .i64 k∧Hid (WK w wr w.heap.size acc)∧Hid (acc.length≤300)∧Hid (∀c r,s.data.toList.drop k=c::r→(c.toNat == 32)=false)∧Hid (wds (s.data.toList.drop k) acc k=R)) (fun a _=>s.size-(intOf a).toNat)
 case atStart=>exact⟨k0,[],by omega,rfl,by subst hw0;exact HK,Nat.zero_le _,HN0,HR⟩
 case round=>
  clear HR0 HN0 HK hw0 hk0 HR
  obtain⟨k,acc,hk,rfl,HK,HA,HB,HR⟩:=hrel
  by_cases hlt:k<s.size
  · have i1:(k:Int)<(s.size:Int):=by omega
    have i2:(k:Int)≤(s.size:Int):=by omega
    have hD:=drop_at s k hlt
    have hne:=HB.out _ _ hD
    have H1:=first_any (s.extract k s.size) wr (by simp;omega) (by simp;omega)
    rw[tail_dropW]at H1
    obtain⟨v,hrow,hown⟩:=HK.out.row
    obtain⟨q,cp,rfl,_⟩:=hown.slice
    have hnl:=HK.out.err
    have hsz:=HK.out.size
    cases hw:word1 (s.data.toList.drop k)with
    | error n=>
      rw[hw]at H1
      unfold endW at H1
      simp only[]at H1
      have HN:Hid (R= .error (n,k)):=by
       have:=HR.out
       rw[hD]at hw
       rw[hD,wds_bad hne hw]at this
       exact this.symm
      clear hw hD hne HB HR hown
      go_wp2_with fail
      refine H1.mono ?_
      rintro e w2 ⟨rfl,hb⟩
      have HK2:=HK.out.up hb
      obtain⟨v2,hr2,ho2⟩:=HK2.row
      go_wp2
      refine leaves_cons (f:=55) (args:= #[.pointer (some ⟨w.heap.size,0,none⟩),.pointer (some ⟨w.heap.size+1,0,none⟩)]) (by simp) (by simp[go_sem]) ?_
      refine(wcatch_thrown n w.heap.size _ _ _ hr2 HK2.rowf HK2.err HK2.errf HK2.size).mono ?_
      rintro e u' w3 ⟨rfl,rfl,c0,c1,hb3⟩
      have hb4:=HK2.bel.trans hb3
      simp[Leaves,settle,results,Tryz.results33,go_sem,c0,c1]
      exact⟨by rw[HN.out];rfl,hb4⟩
    | ok x=>
      obtain⟨kd,t,n⟩:=x
      rw[hw]at H1
      unfold endW at H1
      simp only[]at H1
      obtain⟨n1,n2⟩:=word1_size hw
      rw[List.length_drop,hl]at n2
      simp only at n1 n2
      by_cases hf:300≤acc.length
      · have HN:Hid (R= .error (4,k)):=by
         have:=HR.out
         rw[hD]at hw
         rw[hD,wds_full hne hw hf]at this
         exact this.symm
        clear hw hD hne HB HR hown
        go_wp2_with fail
        refine H1.mono ?_
        rintro e w2 ⟨rfl,hb⟩
        have hbt:Below w2.heap.size w2 (w2.alloc (.cells #[.int .i64 kd,.string ⟨t.toArray⟩,.int .i64 0] 78)):=(Below.refl _ _).alloc (Nat.le_refl _) _
        have HK2:=(HK.out.up hb).up hbt
        have hr2:=(hbt.cell (p:=⟨w.heap.size,0,none⟩) (by have:=hb.size;show w.heap.size<_;omega)).trans ((hb.cell (p:=⟨w.heap.size,0,none⟩) (by show w.heap.size<_;omega)).trans hrow)
        have hsz2:=(HK.out.up hb).size
        clear HK hrow hnl
        go_wp2_with fail
        rw[decide_eq_false (by omega)]
        refine(wneed_false _ _).mono ?_
        rintro e w3 ⟨rfl,rfl⟩
        go_wp2
        refine leaves_cons (f:=55) (args:= #[.pointer (some ⟨w.heap.size,0,none⟩),.pointer (some ⟨w.heap.size+1,0,none⟩)]) (by simp) (by simp[go_sem]) ?_
        refine(wcatch_thrown 4 w.heap.size _ _ _ hr2 HK2.rowf HK2.err HK2.errf HK2.size).mono ?_
        rintro e u' w3 ⟨rfl,rfl,c0,c1,hb3⟩
        have hb4:=HK2.bel.trans hb3
        simp[Leaves,settle,results,Tryz.results33,go_sem,c0,c1]
        exact⟨by rw[HN.out];rfl,hb4⟩
      · have HN:Hid (wds (s.data.toList.drop (k+n)) (acc++[mkT kd t k]) (k+n)=R):=by
         have:=HR.out
         rw[hD]at hw
         rw[hD,wds_word hne hw hf]at this
         simp only at this
         rw[List.drop_drop,show k+1+(n-1)=k+n by omega]at this
         exact this
        clear hw hD hne HB HR hown
        go_wp2_with fail
        refine H1.mono ?_
        rintro e w2 ⟨rfl,hb⟩
        have hbt:Below w2.heap.size w2 (w2.alloc (.cells #[.int .i64 kd,.string ⟨t.toArray⟩,.int .i64 0] 78)):=(Below.refl _ _).alloc (Nat.le_refl _) _
        have hbt2:Below w2.heap.size w2 (w2.alloc (.cells #[.int .i64 kd,.string ⟨t.toArray⟩,.int .i64 k] 78)):=(Below.refl _ _).alloc (Nat.le_refl _) _
        have HK1:=HK.out.up hb
        have hsz2:=HK1.size
        have hr1:=(hb.cell (p:=⟨w.heap.size,0,none⟩) (by show w.heap.size<_;omega)).trans hrow
        have hr2:=(hbt.cell (p:=⟨w.heap.size,0,none⟩) (by show w.heap.size<_;omega)).trans hr1
        have hr3:=(hbt2.cell (p:=⟨w.heap.size,0,none⟩) (by show w.heap.size<_;omega)).trans hr1
        have HK3:=HK1.up hbt2
        clear HK hrow hnl hbt
        go_wp2_with fail
        rw[decide_eq_true (by omega)]
        refine(wneed_true _ _).mono ?_
        rintro e w3 ⟨rfl,rfl⟩
        obtain⟨v3,r3,hown3⟩:=HK3.row
        obtain rfl:v3= .slice q acc.length cp:=Option.some.inj (r3.symm.trans hr3)
        have hz:(w2.alloc (.cells #[.int .i64 kd,.string ⟨t.toArray⟩,.int .i64 k] 78)).heap.size=w2.heap.size+1:=by simp
        have hrf3:=HK3.rowf
        have hal:acc.length≤300:=HA.out
        have i3:(k:Int)+(n:Int)≤(s.size:Int):=by omega
        have hlen:(acc++[mkT kd t k]).length=acc.length+1:=by simp
        have Hlen:Hid _:=hlen
        clear hlen
        go_wp2_with (at_builtin;refine append_tok (w2.alloc (.cells #[.int .i64 kd,.string ⟨t.toArray⟩,.int .i64 k] 78)) rfl (.tmp 34) (.tmp 36) rfl (w.heap.size+2) (.slice q acc.length cp) acc rfl hown3 (mkT kd t k) (by rw[hz];rfl) (by omega) (by rw[hz];omega) ?_;intro v' w4 hown4 hb4;obtain⟨q4,c4,rfl,_⟩:=hown4.slice;rw[Hlen.out]at hown4 ⊢; have h4:=(hb4.cell (p:=⟨w.heap.size,0,none⟩) (by show w.heap.size<w.heap.size+2;omega)).trans hr3;have z4:=(hb4.frozen (p:=⟨w.heap.size,0,none⟩) (by show w.heap.size<w.heap.size+2;omega)).trans hrf3)
        have HK5:=HK3.grow hb4 hown4
        generalize w4.setCell ⟨w.heap.size,0,none⟩ (.slice q4 (acc.length+1) c4)=w5 at *
        have HB5:=runBlank_any (s.extract (k+n) s.size) w5 (by simp;unfold maxLen;omega)
        have HR5:=wds_run (s.data.toList.drop (k+n)) (acc++[mkT kd t k]) (k+n)
        have hbl:=runL_le blankb (s.data.toList.drop (k+n))
        have HN5:=run_next (s.data.toList.drop (k+n))
        rw[tail_dropW]at HB5
        rw[List.drop_drop]at HN5 HR5
        rw[List.length_drop,hl]at hbl
        generalize runL blankb (s.data.toList.drop (k+n))=b at *
        have HR6:Hid (wds (s.data.toList.drop (k+n+b)) (acc++[mkT kd t k]) (k+n+b)=R):=HR5.symm.trans HN.out
        have HN6:Hid (∀c r,s.data.toList.drop (k+n+b)=c::r→(c.toNat == 32)=false):=HN5
        have HA6:Hid ((acc++[mkT kd t k]).length≤300):=by show _≤_;rw[Hlen.out];omega
        have HK6:Hid _:=HK5
        clear HR5 HN5 HK5 HN hown3 hown4 hb4 h4 z4 hr2 hr3 r3 hrf3 HK3 HK1
        refine HB5.mono ?_
        rintro e w6 ⟨rfl,rfl⟩
        go_wp2
        go_roundw
        case rel=>exact⟨k+n+b,_,by omega,by go_num,HK6,HA6,HN6,HR6⟩
        case measure=>simp[intOf];omega
  · obtain rfl:k=s.size:=by omega
    have i1:¬(s.size:Int)<(s.size:Int):=by omega
    have HN:Hid (R= .ok acc):=by
     have:=HR.out
     rw[List.drop_of_length_le (by simp),wds_nil]at this
     exact this.symm
    obtain⟨v,hrow,hown⟩:=HK.out.row
    obtain⟨q,cp,rfl,_⟩:=hown.slice
    have hnl:=HK.out.err
    have hrf:=HK.out.rowf
    have hnf:=HK.out.errf
    have hbw:=HK.out.bel
    have hne:(⟨w.heap.size,0,none⟩:Addr)≠⟨w.heap.size+1,0,none⟩:=by intro hh;injection hh;omega
    have hown2:=(hown.set (a:=⟨w.heap.size,0,none⟩) (by show w.heap.size<w.heap.size+2;omega) (.slice q acc.length cp)).set (a:=⟨w.heap.size+1,0,none⟩) (by show w.heap.size+1<w.heap.size+2;omega) .nilIface
    have g0:=(World.cell?_setCell_other (wr.setCell ⟨w.heap.size,0,none⟩ (.slice q acc.length cp)) _ _ .nilIface hne.symm).trans (World.cell?_setCell_same _ _ (.slice q acc.length cp) hrow)
    have g1:=World.cell?_setCell_same (wr.setCell ⟨w.heap.size,0,none⟩ (.slice q acc.length cp)) _ .nilIface ((World.cell?_setCell_other _ _ _ _ hne).trans hnl)
    have hb4:=(hbw.setCell (p:=⟨w.heap.size,0,none⟩) (Nat.le_refl _) (.slice q acc.length cp)).setCell (p:=⟨w.heap.size+1,0,none⟩) (by show w.heap.size≤w.heap.size+1;omega) .nilIface
    clear HK HR HB hown hbw
    go_wp2
    unfold bodyPostD
    simp only[]
    refine leaves_cons (f:=55) (args:= #[.pointer (some ⟨w.heap.size,0,none⟩),.pointer (some ⟨w.heap.size+1,0,none⟩)]) (by simp) (by simp[go_sem]) ?_
    refine(wcatch_idle ⟨w.heap.size,0,none⟩ ⟨w.heap.size+1,0,none⟩ _).mono ?_
    rintro e u' w3 ⟨rfl,rfl,rfl⟩
    simp[Leaves,settle,results,Tryz.results33,go_sem,g0,g1]
    obtain⟨q',c',hq',hrest⟩:=hown2.slice
    injection hq' with e1 e2 e3
    subst e1 e3
    exact⟨by rw[HN.out];exact⟨_,_,rfl,hrest.1,hrest.2.1,hrest.2.2.1,fun a ha=>Nat.le_trans (by omega) (hrest.2.2.2 a ha)⟩,hb4⟩
theorem read_any (s:ByteArray)(w:World)(hs:s.size≤maxLen):
 Calls Tryz.prog 15 #[.string s] w fun e w'=>ReadPost w.heap.size (readL s.data.toList) e w'∧Below w.heap.size w w':=by
 have hl:s.data.toList.length=s.size:=by simp
 unfold maxLen at hs
 by_cases h:900<s.size
 · have HF:Hid (readL s.data.toList= .error (4,0)):=if_pos (by omega)
   have h':(900:Int)<(s.size:Int):=by omega
   go_enter Tryz.func15,Tryz.ntmps15
   go_wp2
   go_ret3
   exact⟨by rw[HF.out];rfl,Below.refl _ _⟩
 · have HF:Hid (readL s.data.toList=wds s.data.toList [] 0):=if_neg (by omega)
   have h':¬(900:Int)<(s.size:Int):=by omega
   have H1:=wwalk_any s w (by omega)
   rw[←HF.out]at H1
   generalize readL s.data.toList=R at *
   cases R with
   | ok ts=>
     go_enter Tryz.func15,Tryz.ntmps15
     go_wp2_with fail
     refine H1.mono ?_
     rintro e w1 ⟨⟨q,c,rfl,hr⟩,hb⟩
     go_wp2
     go_ret3
     exact⟨⟨q,c,rfl,hr⟩,hb⟩
   | error x=>
     go_enter Tryz.func15,Tryz.ntmps15
     go_wp2_with fail
     refine H1.mono ?_
     rintro e w1 ⟨rfl,hb⟩
     go_wp2
     go_ret3
     exact⟨rfl,hb⟩
theorem quoteW_any (s:ByteArray)(w:World)(hs:s.size≤maxLen):
 Calls Tryz.prog 82 #[.string s] w fun e w'=>(∃v,e= .returned (.tuple #[.string ⟨(if textOk s.data.toList=true then quoted s.data.toList else[]).toArray⟩,v]))∧Below w.heap.size w w':=by
 have hl:s.data.toList.length=s.size:=by simp
 by_cases h1:s.size≤60
 · refine(quote_short s w h1).mono ?_
   rintro e w' ⟨rfl,hb⟩
   cases h2:s.data.toList.all okb
   · have:textOk s.data.toList=false:=by unfold textOk;rw[h2];simp
     exact⟨⟨_,by rw[qres_bad h2,this];rfl⟩,hb⟩
   · have:textOk s.data.toList=true:=by unfold textOk;rw[h2,decide_eq_true (by omega)];rfl
     exact⟨⟨_,by rw[qres_ok h2,this];rfl⟩,hb⟩
 · refine(quote_full s w hs (by omega)).mono ?_
   rintro e w' ⟨rfl,rfl⟩
   have:textOk s.data.toList=false:=by unfold textOk;rw[decide_eq_false (by omega)];rfl
   exact⟨⟨_,by rw[this];rfl⟩,Below.refl _ _⟩
theorem ba_same {a b:ByteArray}(h:a.data.toList=b.data.toList):a=b:=by
 have:=of_list h
 rw[this]
theorem wr_ba {t:Tk}{b:ByteArray}(h:b.data.toList=wtn t):b=⟨(wtn t).toArray⟩:=by rw[←h]
theorem wwrite_any (t:Tk)(w:World)(hs:t.s.size≤140737488351232):
 Calls Tryz.prog 74 #[.agg #[.int .i64 t.kind,.string t.s,.int .i64 t.at_]] w fun e w'=>e= .returned (.string ⟨(wtn t).toArray⟩)∧Below w.heap.size w w':=by
 have hb0:Below w.heap.size w (w.alloc (.cells #[.int .i64 t.kind,.string t.s,.int .i64 t.at_] 78)):=(Below.refl _ _).alloc (Nat.le_refl _) _
 by_cases h4:t.kind=4
 · have HW:Hid ((⟨#[63]⟩++t.s:ByteArray)=⟨(wtn t).toArray⟩):=wr_ba (by rw[wr_slot h4];simp)
   have e4:(t.kind == 4)=true:=by simpa using h4
   have i1:¬ 9223372036854775807<1+t.s.size:=by omega
   clear h4
   go_enter Tryz.func74,Tryz.ntmps74
   go_wp2
   go_ret
   exact⟨by rw[←HW.out];rfl,hb0⟩
 · have e4:(t.kind == 4)=false:=by simpa using h4
   by_cases h3:t.kind=3
   · have HW:Hid (wtn t=if textOk t.s.data.toList=true then quoted t.s.data.toList else[]):=wr_quo h3
     have e3:(t.kind == 3)=true:=by simpa using h3
     have H1:=fun w=>quoteW_any t.s w (by unfold maxLen;omega)
     rw[←HW.out]at H1
     clear h4 h3
     go_enter Tryz.func74,Tryz.ntmps74
     go_wp2_with fail
     refine(H1 _).mono ?_
     rintro e w1 ⟨⟨v,rfl⟩,hb⟩
     go_wp2
     go_ret
     exact⟨rfl,hb0.trans (hb.mono hb0.size)⟩
   · have HW:Hid (t.s=⟨(wtn t).toArray⟩):=wr_ba (wr_else h3 h4).symm
     have e3:(t.kind == 3)=false:=by simpa using h3
     clear h4 h3
     go_enter Tryz.func74,Tryz.ntmps74
     go_wp2
     go_ret
     exact⟨by rw[←HW.out];rfl,hb0⟩
theorem wr_size (t:Tk):(wtn t).length≤t.s.size+122:=by
 have hl:t.s.data.toList.length=t.s.size:=by simp
 unfold wtn
 split
 · simp
 · split
   · split
     · rename_i h
       unfold textOk at h
       rw[Bool.and_eq_true,decide_eq_true_eq]at h
       have:=body_length t.s.data.toList
       unfold quoted
       rw[List.length_cons,List.length_append,List.length_cons,List.length_nil];omega
     · simp
   · omega
def oneV (t:Tk):Value:=if spB t=true then .tuple #[.string ⟨(wtn t).toArray⟩,.nilIface]else .tuple #[.string ⟨#[]⟩,.iface 41 (.int .i64 1)]
theorem oneV_yes {t:Tk}(h:spB t=true):oneV t= .tuple #[.string ⟨(wtn t).toArray⟩,.nilIface]:=if_pos h
theorem oneV_no {t:Tk}(h:¬spB t=true):oneV t= .tuple #[.string ⟨#[]⟩,.iface 41 (.int .i64 1)]:=if_neg h
theorem spellOne_any (t:Tk)(w:World)(hs:t.s.size≤140737488351232):
 Calls Tryz.prog 45 #[.agg #[.int .i64 t.kind,.string t.s,.int .i64 t.at_]] w fun e w'=>e= .returned (oneV t)∧Below w.heap.size w w':=by
 have hb0:Below w.heap.size w (w.alloc (.cells #[.int .i64 t.kind,.string t.s,.int .i64 t.at_] 78)):=(Below.refl _ _).alloc (Nat.le_refl _) _
 have H1:=fun w=>wwrite_any t w hs
 have hwl:=wr_size t
 have H2:=fun w=>read_any ⟨(wtn t).toArray⟩ w (by show(wtn t).length≤maxLen;unfold maxLen;omega)
 have HD:(⟨(wtn t).toArray⟩:ByteArray).data.toList=wtn t:=rfl
 rw[HD]at H2
 generalize hB:(⟨(wtn t).toArray⟩:ByteArray)=B at *
 cases hR:readL (wtn t)with
 | error x=>
   have HV:Hid (_=_):=oneV_no (t:=t) (fun h=>by have:=spB_read h;rw[hR]at this;cases this)
   rw[hR]at H2
   clear hR HD hwl hB
   go_enter Tryz.func45,Tryz.ntmps45
   go_wp2_with fail
   refine(H1 _).mono ?_
   rintro e w1 ⟨rfl,hb1⟩
   go_wp2_with fail
   refine(H2 _).mono ?_
   rintro e w2 ⟨rfl,hb2⟩
   have hb3:=hb1.trans (hb2.mono hb1.size)
   have q0:∀o,w2.cell? ⟨w.heap.size,o,none⟩=_:=fun o=>hb3.cell (p:=⟨w.heap.size,o,none⟩) (by simp)
   have qf:∀o,w2.frozen? ⟨w.heap.size,o,none⟩=_:=fun o=>hb3.frozen (p:=⟨w.heap.size,o,none⟩) (by simp)
   have d0:w2.cell? ⟨w.heap.size,0,none⟩=some (.int .i64 t.kind):=(q0 0).trans (by simp[go_sem])
   have d1:w2.cell? ⟨w.heap.size,1,none⟩=some (.string t.s):=(q0 1).trans (by simp[go_sem])
   have d2:w2.cell? ⟨w.heap.size,2,none⟩=some (.int .i64 t.at_):=(q0 2).trans (by simp[go_sem])
   have f2:w2.frozen? ⟨w.heap.size,2,none⟩=false:=(qf 2).trans (by simp[go_sem])
   have hb4:=hb0.trans (hb3.mono hb0.size)
   clear q0 qf
   go_wp2_with fail
   go_quiet (fail)
   go_wp2
   go_ret2
   exact⟨by rw[HV.out];rfl,below_draws (hb4.setCell (Nat.le_refl _) _) _⟩
 | ok us=>
   rw[hR]at H2
   by_cases h1:us.length=1
   · obtain⟨u,rfl⟩:∃u,us=[u]:=List.length_eq_one_iff.1 h1
     by_cases hk:u.kind=t.kind∧u.s=t.s∧u.at_=0
     · have HV:Hid (_=_):=oneV_yes (t:=t) (read_spB (by rw[hR];obtain⟨e1,e2,e3⟩:=hk;cases u;simp only at e1 e2 e3;subst e1 e2 e3;rfl))
       obtain⟨e1,e2,e3⟩:=hk
       clear hR HD hwl h1
       go_enter Tryz.func45,Tryz.ntmps45
       go_wp2_with fail
       refine(H1 _).mono ?_
       rintro e w1 ⟨rfl,hb1⟩
       go_wp2_with fail
       refine(H2 _).mono ?_
       rintro e w2 ⟨⟨q,cp,rfl,hq,_,_,hqn⟩,hb2⟩
       have hb3:=hb1.trans (hb2.mono hb1.size)
       have q0:∀o,w2.cell? ⟨w.heap.size,o,none⟩=_:=fun o=>hb3.cell (p:=⟨w.heap.size,o,none⟩) (by simp)
       have qf:∀o,w2.frozen? ⟨w.heap.size,o,none⟩=_:=fun o=>hb3.frozen (p:=⟨w.heap.size,o,none⟩) (by simp)
       have d0:w2.cell? ⟨w.heap.size,0,none⟩=some (.int .i64 t.kind):=(q0 0).trans (by simp[go_sem])
       have d1:w2.cell? ⟨w.heap.size,1,none⟩=some (.string t.s):=(q0 1).trans (by simp[go_sem])
       have d2:w2.cell? ⟨w.heap.size,2,none⟩=some (.int .i64 t.at_):=(q0 2).trans (by simp[go_sem])
       have f2:w2.frozen? ⟨w.heap.size,2,none⟩=false:=(qf 2).trans (by simp[go_sem])
       have hb4:=hb0.trans (hb3.mono hb0.size)
       have hb1s:w.heap.size+1≤w1.heap.size:=by have:=hb1.size;simpa using this
       clear q0 qf
       have hcell:=hq.at (i:=0) (by simp)
       obtain⟨b,off,rfl,hbw,c0,c1,c2⟩:=hcell
       simp only[List.getElem_cons_zero,Nat.zero_mul,Nat.add_zero]at c0 c1 c2
       have hbn:=hqn _ rfl
       simp only at hbn
       have nb:∀o:Nat,(⟨w.heap.size,2,none⟩:Addr)≠⟨b,o,none⟩:=by intro o hh;injection hh;omega
       have g0:=(World.cell?_setCell_other w2 _ _ (.int .i64 0) (nb off)).trans c0
       have g1:=(World.cell?_setCell_other w2 _ _ (.int .i64 0) (nb (off+1))).trans c1
       have g2:=(World.cell?_setCell_other w2 _ _ (.int .i64 0) (nb (off+2))).trans c2
       have n0:(⟨w.heap.size,2,none⟩:Addr)≠⟨w.heap.size,0,none⟩:=by intro hh;injection hh;omega
       have n1:(⟨w.heap.size,2,none⟩:Addr)≠⟨w.heap.size,1,none⟩:=by intro hh;injection hh;omega
       have k0:=(World.cell?_setCell_other w2 _ _ (.int .i64 0) n0).trans d0
       have k1:=(World.cell?_setCell_other w2 _ _ (.int .i64 0) n1).trans d1
       have k2:=World.cell?_setCell_same w2 _ (.int .i64 0) d2
       have hsz:w.heap.size<w2.heap.size:=by have:=hb2.size;omega
       rw[e1]at g0
       rw[e2]at g1
       rw[e3]at g2
       clear c0 c1 c2 e1 e2 e3
       go_wp2_with fail
       go_quiet (fail)
       go_wp2
       go_ret2
       exact⟨by rw[HV.out,hB];rfl,below_draws (hb4.setCell (Nat.le_refl _) _) _⟩
     · have HV:Hid (_=_):=oneV_no (t:=t) (fun h=>hk (by have:=spB_read h;rw[hR]at this;injection this with this;injection this with this _;rw[this];exact⟨rfl,rfl,rfl⟩))
       clear hR HD hwl h1 hB
       go_enter Tryz.func45,Tryz.ntmps45
       go_wp2_with fail
       refine(H1 _).mono ?_
       rintro e w1 ⟨rfl,hb1⟩
       go_wp2_with fail
       refine(H2 _).mono ?_
       rintro e w2 ⟨⟨q,cp,rfl,hq,_,_,hqn⟩,hb2⟩
       have hb3:=hb1.trans (hb2.mono hb1.size)
       have q0:∀o,w2.cell? ⟨w.heap.size,o,none⟩=_:=fun o=>hb3.cell (p:=⟨w.heap.size,o,none⟩) (by simp)
       have qf:∀o,w2.frozen? ⟨w.heap.size,o,none⟩=_:=fun o=>hb3.frozen (p:=⟨w.heap.size,o,none⟩) (by simp)
       have d0:w2.cell? ⟨w.heap.size,0,none⟩=some (.int .i64 t.kind):=(q0 0).trans (by simp[go_sem])
       have d1:w2.cell? ⟨w.heap.size,1,none⟩=some (.string t.s):=(q0 1).trans (by simp[go_sem])
       have d2:w2.cell? ⟨w.heap.size,2,none⟩=some (.int .i64 t.at_):=(q0 2).trans (by simp[go_sem])
       have f2:w2.frozen? ⟨w.heap.size,2,none⟩=false:=(qf 2).trans (by simp[go_sem])
       have hb4:=hb0.trans (hb3.mono hb0.size)
       have hb1s:w.heap.size+1≤w1.heap.size:=by have:=hb1.size;simpa using this
       clear q0 qf
       have hcell:=hq.at (i:=0) (by simp)
       obtain⟨b,off,rfl,hbw,c0,c1,c2⟩:=hcell
       simp only[List.getElem_cons_zero,Nat.zero_mul,Nat.add_zero]at c0 c1 c2
       have hbn:=hqn _ rfl
       simp only at hbn
       have nb:∀o:Nat,(⟨w.heap.size,2,none⟩:Addr)≠⟨b,o,none⟩:=by intro o hh;injection hh;omega
       have g0:=(World.cell?_setCell_other w2 _ _ (.int .i64 0) (nb off)).trans c0
       have g1:=(World.cell?_setCell_other w2 _ _ (.int .i64 0) (nb (off+1))).trans c1
       have g2:=(World.cell?_setCell_other w2 _ _ (.int .i64 0) (nb (off+2))).trans c2
       have n0:(⟨w.heap.size,2,none⟩:Addr)≠⟨w.heap.size,0,none⟩:=by intro hh;injection hh;omega
       have n1:(⟨w.heap.size,2,none⟩:Addr)≠⟨w.heap.size,1,none⟩:=by intro hh;injection hh;omega
       have k0:=(World.cell?_setCell_other w2 _ _ (.int .i64 0) n0).trans d0
       have k1:=(World.cell?_setCell_other w2 _ _ (.int .i64 0) n1).trans d1
       have k2:=World.cell?_setCell_same w2 _ (.int .i64 0) d2
       have hsz:w.heap.size<w2.heap.size:=by have:=hb2.size;omega
       clear c0 c1 c2
       obtain⟨tk,ts,ta⟩:=t
       obtain⟨uk,us,ua⟩:=u
       simp only at *
       by_cases e1:uk=tk
       · subst e1
         by_cases e2:us=ts
         · subst e2
           have e3:¬ua=0:=fun h=>hk ⟨rfl,rfl,h⟩
           clear hk
           go_wp2_with fail
           go_quiet (fail)
           go_wp2
           go_ret2
           exact⟨by rw[HV.out];rfl,below_draws (hb4.setCell (Nat.le_refl _) _) _⟩
         · have e2':¬us.toList=ts.toList:=fun h=>e2 (ba_same (by simpa only[ByteArray.toList_eq]using h))
           clear hk
           go_wp2_with fail
           go_quiet (fail)
           go_wp2
           go_ret2
           exact⟨by rw[HV.out];rfl,below_draws (hb4.setCell (Nat.le_refl _) _) _⟩
       · clear hk
         go_wp2_with fail
         go_quiet (fail)
         go_wp2
         go_ret2
         exact⟨by rw[HV.out];rfl,below_draws (hb4.setCell (Nat.le_refl _) _) _⟩
   · have HV:Hid (_=_):=oneV_no (t:=t) (fun h=>by have:=spB_read h;rw[hR]at this;injection this with this;rw[this]at h1;simp at h1)
     have i1:((us.length:Int) != 1)=true:=by simp;omega
     clear hR HD hwl hB
     go_enter Tryz.func45,Tryz.ntmps45
     go_wp2_with fail
     refine(H1 _).mono ?_
     rintro e w1 ⟨rfl,hb1⟩
     go_wp2_with fail
     refine(H2 _).mono ?_
     rintro e w2 ⟨⟨q,cp,rfl,hq,_,_,hqn⟩,hb2⟩
     have hb3:=hb1.trans (hb2.mono hb1.size)
     have q0:∀o,w2.cell? ⟨w.heap.size,o,none⟩=_:=fun o=>hb3.cell (p:=⟨w.heap.size,o,none⟩) (by simp)
     have qf:∀o,w2.frozen? ⟨w.heap.size,o,none⟩=_:=fun o=>hb3.frozen (p:=⟨w.heap.size,o,none⟩) (by simp)
     have d0:w2.cell? ⟨w.heap.size,0,none⟩=some (.int .i64 t.kind):=(q0 0).trans (by simp[go_sem])
     have d1:w2.cell? ⟨w.heap.size,1,none⟩=some (.string t.s):=(q0 1).trans (by simp[go_sem])
     have d2:w2.cell? ⟨w.heap.size,2,none⟩=some (.int .i64 t.at_):=(q0 2).trans (by simp[go_sem])
     have f2:w2.frozen? ⟨w.heap.size,2,none⟩=false:=(qf 2).trans (by simp[go_sem])
     have hb4:=hb0.trans (hb3.mono hb0.size)
     have hb1s:w.heap.size+1≤w1.heap.size:=by have:=hb1.size;simpa using this
     clear q0 qf
     go_wp2_with fail
     go_quiet (fail)
     go_wp2
     go_ret2
     exact⟨by rw[HV.out];rfl,below_draws (hb4.setCell (Nat.le_refl _) _) _⟩
theorem append_textW (w:World){ops:Array Oper}{rest:List Oper}{o:Oper}{a:Act}{Q:Exit→Act→World→Prop}(hgd:o.guard=none)(s x:Operand)
 (ho:o.op= .call { callee:=.builtin .append,args:= #[s,x],argTypes:= #[94,9] })
 (base:Nat) (v:Value) (l:List UInt8) (hs:a.eval s=v) (hown:OwnB w base v l) (t:ByteArray) (hx:a.eval x= .string t)
 (hlen:l.length+t.size≤140737488355328) (hbase:base≤w.heap.size)
 (h:∀v' w',OwnB w' base v' (l++t.data.toList)→Below base w w'→wpList Tryz.prog ops Q rest (a.put o.dst v') w'):wpList Tryz.prog ops Q (o::rest) a w:=by
 obtain⟨i0,hi,hz0,hz1,hz2⟩:=info_parts Tryz.infoByte
 refine Lib.wpList_append_own_string w hgd s x 94 9 ho base 5 i0 Tryz.underlying94 Tryz.underlying9 hi hz0 hz1 hz2 v l.length (bs l) hs hown t hx (by unfold maxLen;omega) hlen hbase ?_
 intro v' w' h1 h2 _
 refine h v' w' ?_ ?_
 · have e:bs (l++t.data.toList)=bs l++Lib.strCells t:=by simp[bs,Lib.strCells]
   unfold OwnB
   rw[e,List.length_append,show t.data.toList.length=t.size by simp]
   exact h1
 · exact(Below.refl base w).grown h2 hbase (fun k hk=>(World.ownsRow.lt hown k hk).1)
theorem spB_len {t:Tk}(h:spB t=true):(wtn t).length≤900:=by
 have:=spB_read h
 unfold readL at this
 split at this
 · cases this
 · omega
theorem gaps_len:∀ts:List Tk,ts.all spB=true→(gaps ts).length≤ts.length*901
 | [],_=>by simp[gaps]
 | t::r,h=>by
   rw[List.all_cons,Bool.and_eq_true]at h
   have h1:=spB_len h.1
   have h2:=gaps_len r h.2
   rw[gaps_cons]
   simp only[List.length_cons,List.length_append]
   omega
theorem lineW_len (ts:List Tk)(h:ts.all spB=true):(lineW ts).length≤ts.length*901:=by
 have:=gaps_len ts h
 unfold lineW
 rw[List.length_tail];omega
theorem all_more {ts:List Tk}{k:Nat}(h:k<ts.length)(ha:(ts.take k).all spB=true)(hb:spB ts[k]=true):(ts.take (k+1)).all spB=true:=by
 rw[List.take_succ_eq_append_getElem h,List.all_append,ha];simp[hb]
theorem all_not {ts:List Tk}{k:Nat}(h:k<ts.length)(hb:¬spB ts[k]=true):¬ts.all spB=true:=by
 intro ha
 exact hb (List.all_eq_true.1 ha _ (List.getElem_mem h))
def spellV:Except Int (List UInt8)→Value
 | .ok l=>.tuple #[.string ⟨l.toArray⟩,.nilIface]
 | .error n=>.tuple #[.string ⟨#[]⟩,.iface 41 (.int .i64 n)]
theorem spell_any (ts:List Tk)(q:Option Addr)(c:Nat)(w:World)(hv:TKL w q ts)(hc:ts.length≤maxLen)(hs:∀t∈ts,t.s.size≤140737488351232):
 Calls Tryz.prog 20 #[.slice q ts.length c] w fun e w'=>e= .returned (spellV (spellL ts))∧Below w.heap.size w w':=by
 unfold maxLen at hc
 by_cases h300:300<ts.length
 · have HV:Hid (spellL ts= .error 4):=if_pos h300
   have i1:(300:Int)<(ts.length:Int):=by omega
   go_enter Tryz.func20,Tryz.ntmps20
   go_wp2
   go_ret2
   exact⟨by rw[HV.out];rfl,Below.refl _ _⟩
 · have i1:¬(300:Int)<(ts.length:Int):=by omega
   have HS:Hid (∀t∈ts,t.s.size≤140737488351232):=hs
   have HV0:Hid (¬ 300<ts.length):=h300
   clear hs
   go_enter Tryz.func20,Tryz.ntmps20
   go_wp2
   go_loopw [4,15] (fun v i wr=>∃k:Nat,k≤ts.length∧i= .int .i64 k∧OwnB wr w.heap.size v (lineW (ts.take k))∧Hid ((ts.take k).all spB=true)∧Below w.heap.size w wr) (fun _ i _=>ts.length-(intOf i).toNat)
   case atStart=>exact⟨0,Nat.zero_le _,rfl,ownB_nil _ _,rfl,Below.refl _ _⟩
   case round=>
    obtain⟨k,hk,rfl,hown,HA,hb⟩:=hrel
    have hlen:=lineW_len _ HA.out
    rw[List.length_take,Nat.min_eq_left hk]at hlen
    by_cases hlt:k<ts.length
    · have i2:(k:Int)<(ts.length:Int):=by omega
      obtain⟨b,off,rfl,hbw,c0,c1,c2⟩:=(hv.up hb).at hlt
      have HT:Hid (ts.take (k+1)=ts.take k++[ts[k]]):=List.take_succ_eq_append_getElem hlt
      have hts:=HS.out _ (List.getElem_mem hlt)
      have HM:Hid (spB ts[k]=true→(ts.take (k+1)).all spB=true):=all_more hlt HA.out
      have HNo:Hid (¬spB ts[k]=true→¬ts.all spB=true):=all_not hlt
      generalize ts[k]=t at *
      have H1:=fun w=>spellOne_any t w hts
      have hbt:Below wr.heap.size wr (wr.alloc (.cells #[.int .i64 t.kind,.string t.s,.int .i64 t.at_] 78)):=(Below.refl _ _).alloc (Nat.le_refl _) _
      by_cases hsp:spB t=true
      · have HM2:Hid _:=HM.out hsp
        have hwl:=spB_len hsp
        have hws:(⟨(wtn t).toArray⟩:ByteArray).size=(wtn t).length:=rfl
        have Hwd:Hid ((⟨(wtn t).toArray⟩:ByteArray).data.toList=wtn t):=rfl
        rw[oneV_yes hsp]at H1
        generalize hW:(⟨(wtn t).toArray⟩:ByteArray)=W at *
        clear hsp HM HNo hW
        go_wp2_with fail
        refine(H1 _).mono ?_
        rintro e w2 ⟨rfl,hb2⟩
        have hb3:=hbt.trans (hb2.mono hbt.size)
        have hb4:=hb.trans (hb3.mono hb.size)
        have hown2:=hown.up hb3
        have hz2:=hb4.size
        by_cases h0:k=0
        · have i3:¬(0:Int)<(k:Int):=by omega
          have HL:Hid (lineW (ts.take k)++W.data.toList=lineW (ts.take (k+1))):=by
           show _=_
           rw[HT.out,h0,List.take_zero,List.nil_append,lineW_one,Hwd.out];rfl
          clear h0
          generalize lineW (ts.take k)=l at *
          go_wp2_with (at_builtin;refine append_textW _ rfl (.tmp 33) (.tmp 34) rfl w.heap.size u4 l rfl hown2 W rfl (by omega) hz2 ?_;intro v' w3 hown3 hb5)
          go_roundw
          case rel=>exact⟨k+1,by omega,by go_num,by rw[←HL.out];exact hown3,HM2,hb4.trans hb5⟩
          case measure=>simp[intOf];omega
        · have i3:(0:Int)<(k:Int):=by omega
          have HL:Hid ((lineW (ts.take k)++[32])++W.data.toList=lineW (ts.take (k+1))):=by
           show _=_
           have hne:ts.take k≠[]:=by
            intro h
            have:=congrArg List.length h
            rw[List.length_take,Nat.min_eq_left hk]at this
            simp at this;omega
           rw[HT.out,lineW_snoc hne,Hwd.out]
          clear h0
          generalize lineW (ts.take k)=l at *
          have t1:True:=trivial
          go_wp2_with (first
           | (at_builtin;have _t:=t1;refine append_byte _ rfl (.tmp 30) (.tmp 31) rfl w.heap.size u4 l rfl hown2 _ 32 rfl rfl (by omega) hz2 ?_;intro v5 w3 hown3 hb5;have hz3:=Nat.le_trans hz2 hb5.size;clear t1)
           | (at_builtin;refine append_textW _ rfl (.tmp 33) (.tmp 34) rfl w.heap.size v5 (l++[32]) rfl hown3 W rfl (by simp only[List.length_append,List.length_cons,List.length_nil];omega) hz3 ?_;intro v' w4 hown4 hb6))
          go_roundw
          case rel=>exact⟨k+1,by omega,by go_num,by rw[←HL.out];exact hown4,HM2,(hb4.trans hb5).trans hb6⟩
          case measure=>simp[intOf];omega
      · have HV:Hid (spellL ts= .error 1):=by
         show _=_
         unfold spellL
         rw[if_neg HV0.out,if_neg (HNo.out hsp)]
        rw[oneV_no hsp]at H1
        clear hsp HM HNo hown
        go_wp2_with fail
        refine(H1 _).mono ?_
        rintro e w2 ⟨rfl,hb2⟩
        have hb3:=hbt.trans (hb2.mono hbt.size)
        have hb4:=hb.trans (hb3.mono hb.size)
        go_wp2
        go_ret2
        exact⟨by rw[HV.out];rfl,hb4⟩
    · obtain rfl:k=ts.length:=by omega
      have i2:¬(ts.length:Int)<(ts.length:Int):=by omega
      rw[List.take_of_length_le (Nat.le_refl _)]at hown HA hlen
      obtain⟨p4,n4,rfl⟩:=hown.shape
      have hconv:=text_of _ _ _ _ hown
      by_cases h9:900<(lineW ts).length
      · have HV:Hid (spellL ts= .error 4):=by
         show _=_
         unfold spellL
         rw[if_neg HV0.out,if_pos HA.out,if_pos h9]
        have i3:(900:Int)<((lineW ts).length:Int):=by omega
        generalize lineW ts=l at *
        go_wp2
        go_ret2
        exact⟨by rw[HV.out];rfl,hb⟩
      · have HV:Hid (spellL ts= .ok (lineW ts)):=by
         show _=_
         unfold spellL
         rw[if_neg HV0.out,if_pos HA.out,if_neg h9]
        have i3:¬(900:Int)<((lineW ts).length:Int):=by omega
        generalize lineW ts=l at *
        go_wp2
        go_ret2
        exact⟨by rw[HV.out];rfl,hb⟩
end Go.Proofs.YtjkepjbfgeldnaaGreatDoor
