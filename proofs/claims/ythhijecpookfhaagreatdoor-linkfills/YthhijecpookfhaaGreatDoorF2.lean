import Derived.Lib.Strings
set_option linter.unusedVariables false
set_option maxHeartbeats 12000000
namespace Go.Proofs.YthhijecpookfhaaGreatDoor
def letb (c:UInt8):Bool:=decide (65≤c.toNat) && decide (c.toNat≤90) || decide (97≤c.toNat) && decide (c.toNat≤122) || c.toNat == 95
def digb (c:UInt8):Bool:=decide (48≤c.toNat) && decide (c.toNat≤57)
def pre:List UInt8→Bool
 | []=>true
 | c::r=>letb c && r.all fun d=>letb d || digb d
def nm (l:List UInt8):Bool:=pre l && !l.isEmpty
def nfault (l:List UInt8):Int:=if nm l then(if 20<l.length then 4 else 0)else 1
theorem pre_left {l m:List UInt8}(h:pre (l++m)=true):pre l=true:=by
 cases l with
 | nil=>rfl
 | cons c r=>
   simp only[List.cons_append,pre,Bool.and_eq_true,List.all_append]at h ⊢
   exact⟨h.1,h.2.1⟩
theorem pre_snoc (l:List UInt8)(c:UInt8):pre (l++[c])=(pre l && (letb c || (!l.isEmpty && digb c))):=by
 cases l with
 | nil=>simp[pre]
 | cons d r=>simp[pre,Bool.and_assoc]
theorem pre_bad (s:ByteArray)(k:Nat)(h:k<s.size)(hb:(letb s[k] || (!(k == 0) && digb s[k]))=false):pre s.data.toList=false:=by
 have hl:s.data.toList.length=s.size:=by simp
 cases hp:pre s.data.toList with
 | false=>rfl
 | true=>
   have e:s.data.toList.take (k+1)=s.data.toList.take k++[s[k]]:=by
    rw[List.take_succ_eq_append_getElem (by omega)];rfl
   have h1:pre (s.data.toList.take (k+1))=true:=pre_left (m:=s.data.toList.drop (k+1)) (by rw[List.take_append_drop];exact hp)
   rw[e,pre_snoc]at h1
   have h2:(s.data.toList.take k).isEmpty=(k == 0):=by
    cases k with
    | zero=>rfl
    | succ j=>
      have:(s.data.toList.take (j+1)).length=j+1:=by rw[List.length_take];omega
      cases ht:s.data.toList.take (j+1)with
      | nil=>rw[ht]at this;simp at this
      | cons x y=>rfl
   rw[h2,hb]at h1
   simp at h1
theorem pre_go (s:ByteArray)(k:Nat)(h:k<s.size)(hp:pre (s.data.toList.take k)=true)(hb:(letb s[k] || (!(k == 0) && digb s[k]))=true):pre (s.data.toList.take (k+1))=true:=by
 have hl:s.data.toList.length=s.size:=by simp
 have e:s.data.toList.take (k+1)=s.data.toList.take k++[s[k]]:=by
  rw[List.take_succ_eq_append_getElem (by omega)];rfl
 rw[e,pre_snoc,hp,Bool.true_and]
 have h2:(s.data.toList.take k).isEmpty=(k == 0):=by
  cases k with
  | zero=>rfl
  | succ j=>
    have:(s.data.toList.take (j+1)).length=j+1:=by rw[List.length_take];omega
    cases ht:s.data.toList.take (j+1)with
    | nil=>rw[ht]at this;simp at this
    | cons x y=>rfl
 rw[h2];exact hb
theorem nm_of_bad {l:List UInt8}(h:pre l=false):nm l=false:=by unfold nm;rw[h];rfl
theorem nm_of_pre {l:List UInt8}(h:pre l=true):nm l= !l.isEmpty:=by unfold nm;rw[h];rfl
theorem empty_size (s:ByteArray):s.data.toList.isEmpty=(s.size == 0):=by
 have:s.data.toList.length=s.size:=by simp
 cases h:s.data.toList with
 | nil=>rw[h]at this;simp at this;simp[←this]
 | cons x y=>rw[h]at this;simp at this;simp[←this]
def okb (c:UInt8):Bool:=decide (32≤c.toNat) && decide (c.toNat≤126)
def grd (c:UInt8):Bool:=c.toNat == 34 || c.toNat == 92
def one (c:UInt8):List UInt8:=if grd c then[92,c]else[c]
def body:List UInt8→List UInt8
 | []=>[]
 | c::l=>one c++body l
def quoted (l:List UInt8):List UInt8:=34::(body l++[34])
def textOk (l:List UInt8):Bool:=decide (l.length≤60) && l.all okb
theorem body_snoc (l:List UInt8)(c:UInt8):body (l++[c])=body l++one c:=by
 induction l with
 | nil=>simp[body]
 | cons d l ih=>simp[body,ih]
theorem one_length (c:UInt8):(one c).length≤2:=by unfold one;split<;>simp
theorem body_length (l:List UInt8):(body l).length≤2*l.length:=by
 induction l with
 | nil=>simp[body]
 | cons c l ih=>have:=one_length c;simp only[body,List.length_append,List.length_cons];omega
theorem body_length_ge (l:List UInt8):l.length≤(body l).length:=by
 induction l with
 | nil=>simp[body]
 | cons c l ih=>
   have:1≤(one c).length:=by unfold one;split<;>simp
   simp only[body,List.length_append,List.length_cons];omega
def st:List UInt8→List UInt8
 | []=>[]
 | [_]=>[]
 | x::y::r=>if x.toNat == 92 then y::st r else x::st (y::r)
def bl:List UInt8→List UInt8
 | []=>[]
 | [_]=>[]
 | x::y::r=>if x.toNat == 92 then(if r.isEmpty then[]else y::bl r)else x::bl (y::r)
theorem st_length:∀(n:Nat) (l:List UInt8),l.length≤n→(st l).length≤l.length
 | _,[],_=>by simp[st]
 | _,[_],_=>by simp[st]
 | 0,_::_::_,h=>by simp at h
 | n+1,x::y::r,h=>by
   simp only[List.length_cons]at h
   have i1:=st_length n r (by omega)
   have i2:=st_length n (y::r) (by simp only[List.length_cons];omega)
   unfold st
   split
   · simp only[List.length_cons];omega
   · simp only[List.length_cons]at i2 ⊢; omega
theorem st_body (l r:List UInt8)(hr:r≠[]):st (body l++r)=l++st r:=by
 induction l with
 | nil=>rfl
 | cons c l ih=>
   unfold body one
   obtain⟨x,r',hx⟩:=List.exists_cons_of_ne_nil hr
   by_cases h:grd c=true
   · rw[if_pos h]
     show st (92::c::(body l++r))=_
     rw[st,if_pos (by decide),ih];rfl
   · rw[if_neg h]
     show st (c::(body l++r))=_
     have hc:¬(c.toNat == 92)=true:=by
      intro h2;apply h;unfold grd;rw[h2];simp
     obtain⟨y,m,hm⟩:∃y m,body l++r=y::m:=List.exists_cons_of_ne_nil (by simp[hr])
     rw[hm,st,if_neg hc,←hm,ih];rfl
theorem bl_body (l:List UInt8):bl (body l++[34])=l:=by
 induction l with
 | nil=>rfl
 | cons c l ih=>
   unfold body one
   by_cases h:grd c=true
   · rw[if_pos h]
     show bl (92::c::(body l++[34]))=_
     rw[bl,if_pos (by decide),if_neg (by simp),ih]
   · rw[if_neg h]
     show bl (c::(body l++[34]))=_
     have hc:¬(c.toNat == 92)=true:=by
      intro h2;apply h;unfold grd;rw[h2];simp
     obtain⟨y,m,hm⟩:∃y m,body l++[34]=y::m:=List.exists_cons_of_ne_nil (by simp)
     rw[hm,bl,if_neg hc,←hm,ih]
theorem st_quoted (l:List UInt8):st ((quoted l).drop 1)=l:=by
 show st (body l++[34])=l
 rw[st_body l [34] (by simp)];simp[st]
theorem bl_quoted (l:List UInt8):bl ((quoted l).drop 1)=l:=bl_body l
theorem quoted_inj {l m:List UInt8}(h:quoted l=quoted m):l=m:=by
 rw[←st_quoted l,h,st_quoted]
theorem st_step (s:ByteArray)(k:Nat)(h:k+1<s.size):st (s.data.toList.drop k)=if s[k].toNat == 92 then s[k+1]::st (s.data.toList.drop (k+2))else s[k]::st (s.data.toList.drop (k+1)):=by
 have e1:s.data.toList.drop k=s[k]::s.data.toList.drop (k+1):=by
  rw[List.drop_eq_getElem_cons (by simp;omega)];rfl
 have e2:s.data.toList.drop (k+1)=s[k+1]::s.data.toList.drop (k+2):=by
  rw[List.drop_eq_getElem_cons (by simp;omega)];rfl
 rw[e1,e2,st]
theorem st_end (s:ByteArray)(k:Nat)(h:s.size≤k+1):st (s.data.toList.drop k)=[]:=by
 rcases Nat.lt_or_ge k s.size with hk | hk
 · have e1:s.data.toList.drop k=s[k]::s.data.toList.drop (k+1):=by
    rw[List.drop_eq_getElem_cons (by simpa using hk)];rfl
   rw[e1,List.drop_of_length_le (by simpa using h)];rfl
 · rw[List.drop_of_length_le (by simpa using hk)];rfl
theorem bl_step (s:ByteArray)(k:Nat)(h:k+2<s.size):bl (s.data.toList.drop k)=if s[k].toNat == 92 then s[k+1]::bl (s.data.toList.drop (k+2))else s[k]::bl (s.data.toList.drop (k+1)):=by
 have e1:s.data.toList.drop k=s[k]::s.data.toList.drop (k+1):=by
  rw[List.drop_eq_getElem_cons (by simp;omega)];rfl
 have e2:s.data.toList.drop (k+1)=s[k+1]::s.data.toList.drop (k+2):=by
  rw[List.drop_eq_getElem_cons (by simp;omega)];rfl
 have e3:(s.data.toList.drop (k+2)).isEmpty=false:=by
  have:(s.data.toList.drop (k+2)).length≠0:=by simp;omega
  cases hd:s.data.toList.drop (k+2)with
  | nil=>rw[hd]at this;simp at this
  | cons x y=>rfl
 rw[e1,e2,bl,e3];rfl
theorem bl_last (s:ByteArray)(k:Nat)(h:k+2=s.size):bl (s.data.toList.drop k)=if s[k].toNat == 92 then[]else s[k]::bl (s.data.toList.drop (k+1)):=by
 have e1:s.data.toList.drop k=s[k]::s.data.toList.drop (k+1):=by
  rw[List.drop_eq_getElem_cons (by simp;omega)];rfl
 have e2:s.data.toList.drop (k+1)=s[k+1]::s.data.toList.drop (k+2):=by
  rw[List.drop_eq_getElem_cons (by simp;omega)];rfl
 have e3:s.data.toList.drop (k+2)=[]:=List.drop_of_length_le (by simp;omega)
 rw[e1,e2,e3,bl];rfl
theorem bl_end (s:ByteArray)(k:Nat)(h:s.size≤k+1):bl (s.data.toList.drop k)=[]:=by
 rcases Nat.lt_or_ge k s.size with hk | hk
 · have e1:s.data.toList.drop k=s[k]::s.data.toList.drop (k+1):=by
    rw[List.drop_eq_getElem_cons (by simpa using hk)];rfl
   rw[e1,List.drop_of_length_le (by simpa using h)];rfl
 · rw[List.drop_of_length_le (by simpa using hk)];rfl
theorem bl_length:∀(n:Nat) (l:List UInt8),l.length≤n→(bl l).length≤l.length
 | _,[],_=>by simp[bl]
 | _,[_],_=>by simp[bl]
 | 0,_::_::_,h=>by simp at h
 | n+1,x::y::r,h=>by
   simp only[List.length_cons]at h
   have i1:=bl_length n r (by omega)
   have i2:=bl_length n (y::r) (by simp only[List.length_cons];omega)
   unfold bl
   split
   · split
     · simp
     · simp only[List.length_cons];omega
   · simp only[List.length_cons]at i2 ⊢; omega
theorem take_snoc (s:ByteArray)(k:Nat)(h:k<s.size):s.data.toList.take (k+1)=s.data.toList.take k++[s[k]]:=by
 rw[List.take_succ_eq_append_getElem (by simpa using h)];rfl
theorem take_all (s:ByteArray):s.data.toList.take s.size=s.data.toList:=List.take_of_length_le (by simp)
theorem all_take_bad (s:ByteArray)(k:Nat)(h:k<s.size)(hb:okb s[k]=false):s.data.toList.all okb=false:=by
 rw[List.all_eq_false]
 exact⟨s[k],by
  have:s[k]=s.data.toList[k]'(by simpa using h):=rfl
  rw[this];exact List.getElem_mem _,by simp[hb]⟩
def tfault (l:List UInt8):Int:=if l.length≤60 then(if l.all okb then 0 else 1)else 4
theorem tfault_long {l:List UInt8}(h:¬l.length≤60):tfault l=4:=if_neg h
theorem tfault_bad {l:List UInt8}(h:l.length≤60)(h2:l.all okb=false):tfault l=1:=by unfold tfault;rw[if_pos h,h2];rfl
theorem tfault_ok {l:List UInt8}(h:textOk l=true):tfault l=0:=by
 unfold textOk at h
 simp only[Bool.and_eq_true,decide_eq_true_eq]at h
 unfold tfault;rw[if_pos h.1,h.2];rfl
theorem tfault_not {l:List UInt8}(h:textOk l=false):tfault l≠0:=by
 unfold tfault
 unfold textOk at h
 by_cases h1:l.length≤60
 · rw[decide_eq_true h1,Bool.true_and]at h
   rw[if_pos h1,h];decide
 · rw[if_neg h1];decide
def ufault (t i:List UInt8):Int:=if nfault t=0 then tfault i else nfault t
theorem ufault_both {t i:List UInt8}(h:ufault t i=0):nfault t=0∧textOk i=true:=by
 unfold ufault at h
 by_cases h1:nfault t=0
 · rw[if_pos h1]at h
   refine⟨h1,?_⟩
   cases h2:textOk i
   · exact absurd h (tfault_not h2)
   · rfl
 · rw[if_neg h1]at h
   exact absurd h h1
theorem nfault_small {t:List UInt8}(h:nfault t=0):t.length≤20:=by
 unfold nfault at h
 by_cases h1:nm t=true
 · rw[if_pos h1]at h
   by_cases h2:20<t.length
   · rw[if_pos h2]at h;exact absurd h (by decide)
   · omega
 · rw[if_neg h1]at h;exact absurd h (by decide)
theorem ufault_small {t i:List UInt8}(h:ufault t i=0):t.length≤20∧i.length≤60:=by
 obtain⟨h1,h2⟩:=ufault_both h
 refine⟨nfault_small h1,?_⟩
 unfold textOk at h2
 rw[Bool.and_eq_true,decide_eq_true_eq]at h2
 exact h2.1
end Go.Proofs.YthhijecpookfhaaGreatDoor
