import Derived.Lib.Strings
set_option linter.unusedVariables false
set_option maxHeartbeats 12000000
namespace Go.Proofs.YtlnhaajjoplafaaGreatDoor
def letb (c:UInt8):Bool:=decide (65≤c.toNat) && decide (c.toNat≤90) || decide (97≤c.toNat) && decide (c.toNat≤122) || c.toNat == 95
def digb (c:UInt8):Bool:=decide (48≤c.toNat) && decide (c.toNat≤57)
def pre:List UInt8→Bool
 | []=>true
 | c::r=>letb c && r.all fun d=>letb d || digb d
def nm (l:List UInt8):Bool:=pre l && !l.isEmpty
def nfault (l:List UInt8):Int:=if nm l then(if 20<l.length then 4 else 0)else 1
theorem pre_left {l m:List UInt8}(h:pre (l++m)=true):pre l=true:=by
 cases l with
 | nil=>rfl
 | cons c r=>
   simp only[List.cons_append,pre,Bool.and_eq_true,List.all_append]at h ⊢
   exact⟨h.1,h.2.1⟩
theorem pre_snoc (l:List UInt8)(c:UInt8):pre (l++[c])=(pre l && (letb c || (!l.isEmpty && digb c))):=by
 cases l with
 | nil=>simp[pre]
 | cons d r=>simp[pre,Bool.and_assoc]
theorem pre_bad (s:ByteArray)(k:Nat)(h:k<s.size)(hb:(letb s[k] || (!(k == 0) && digb s[k]))=false):pre s.data.toList=false:=by
 have hl:s.data.toList.length=s.size:=by simp
 cases hp:pre s.data.toList with
 | false=>rfl
 | true=>
   have e:s.data.toList.take (k+1)=s.data.toList.take k++[s[k]]:=by
    rw[List.take_succ_eq_append_getElem (by omega)];rfl
   have h1:pre (s.data.toList.take (k+1))=true:=pre_left (m:=s.data.toList.drop (k+1)) (by rw[List.take_append_drop];exact hp)
   rw[e,pre_snoc]at h1
   have h2:(s.data.toList.take k).isEmpty=(k == 0):=by
    cases k with
    | zero=>rfl
    | succ j=>
      have:(s.data.toList.take (j+1)).length=j+1:=by rw[List.length_take];omega
      cases ht:s.data.toList.take (j+1)with
      | nil=>rw[ht]at this;simp at this
      | cons x y=>rfl
   rw[h2,hb]at h1
   simp at h1
theorem pre_go (s:ByteArray)(k:Nat)(h:k<s.size)(hp:pre (s.data.toList.take k)=true)(hb:(letb s[k] || (!(k == 0) && digb s[k]))=true):pre (s.data.toList.take (k+1))=true:=by
 have hl:s.data.toList.length=s.size:=by simp
 have e:s.data.toList.take (k+1)=s.data.toList.take k++[s[k]]:=by
  rw[List.take_succ_eq_append_getElem (by omega)];rfl
 rw[e,pre_snoc,hp,Bool.true_and]
 have h2:(s.data.toList.take k).isEmpty=(k == 0):=by
  cases k with
  | zero=>rfl
  | succ j=>
    have:(s.data.toList.take (j+1)).length=j+1:=by rw[List.length_take];omega
    cases ht:s.data.toList.take (j+1)with
    | nil=>rw[ht]at this;simp at this
    | cons x y=>rfl
 rw[h2];exact hb
theorem nm_of_bad {l:List UInt8}(h:pre l=false):nm l=false:=by unfold nm;rw[h];rfl
theorem nm_of_pre {l:List UInt8}(h:pre l=true):nm l= !l.isEmpty:=by unfold nm;rw[h];rfl
theorem empty_size (s:ByteArray):s.data.toList.isEmpty=(s.size == 0):=by
 have:s.data.toList.length=s.size:=by simp
 cases h:s.data.toList with
 | nil=>rw[h]at this;simp at this;simp[←this]
 | cons x y=>rw[h]at this;simp at this;simp[←this]
def okb (c:UInt8):Bool:=decide (32≤c.toNat) && decide (c.toNat≤126)
def grd (c:UInt8):Bool:=c.toNat == 34 || c.toNat == 92
def one (c:UInt8):List UInt8:=if grd c then[92,c]else[c]
def body:List UInt8→List UInt8
 | []=>[]
 | c::l=>one c++body l
def quoted (l:List UInt8):List UInt8:=34::(body l++[34])
def textOk (l:List UInt8):Bool:=decide (l.length≤60) && l.all okb
theorem body_snoc (l:List UInt8)(c:UInt8):body (l++[c])=body l++one c:=by
 induction l with
 | nil=>simp[body]
 | cons d l ih=>simp[body,ih]
theorem one_length (c:UInt8):(one c).length≤2:=by unfold one;split<;>simp
theorem body_length (l:List UInt8):(body l).length≤2*l.length:=by
 induction l with
 | nil=>simp[body]
 | cons c l ih=>have:=one_length c;simp only[body,List.length_append,List.length_cons];omega
theorem body_length_ge (l:List UInt8):l.length≤(body l).length:=by
 induction l with
 | nil=>simp[body]
 | cons c l ih=>
   have:1≤(one c).length:=by unfold one;split<;>simp
   simp only[body,List.length_append,List.length_cons];omega
def st:List UInt8→List UInt8
 | []=>[]
 | [_]=>[]
 | x::y::r=>if x.toNat == 92 then y::st r else x::st (y::r)
def bl:List UInt8→List UInt8
 | []=>[]
 | [_]=>[]
 | x::y::r=>if x.toNat == 92 then(if r.isEmpty then[]else y::bl r)else x::bl (y::r)
theorem st_length:∀(n:Nat) (l:List UInt8),l.length≤n→(st l).length≤l.length
 | _,[],_=>by simp[st]
 | _,[_],_=>by simp[st]
 | 0,_::_::_,h=>by simp at h
 | n+1,x::y::r,h=>by
   simp only[List.length_cons]at h
   have i1:=st_length n r (by omega)
   have i2:=st_length n (y::r) (by simp only[List.length_cons];omega)
   unfold st
   split
   · simp only[List.length_cons];omega
   · simp only[List.length_cons]at i2 ⊢; omega
theorem st_body (l r:List UInt8)(hr:r≠[]):st (body l++r)=l++st r:=by
 induction l with
 | nil=>rfl
 | cons c l ih=>
   unfold body one
   obtain⟨x,r',hx⟩:=List.exists_cons_of_ne_nil hr
   by_cases h:grd c=true
   · rw[if_pos h]
     show st (92::c::(body l++r))=_
     rw[st,if_pos (by decide),ih];rfl
   · rw[if_neg h]
     show st (c::(body l++r))=_
     have hc:¬(c.toNat == 92)=true:=by
      intro h2;apply h;unfold grd;rw[h2];simp
     obtain⟨y,m,hm⟩:∃y m,body l++r=y::m:=List.exists_cons_of_ne_nil (by simp[hr])
     rw[hm,st,if_neg hc,←hm,ih];rfl
theorem bl_body (l:List UInt8):bl (body l++[34])=l:=by
 induction l with
 | nil=>rfl
 | cons c l ih=>
   unfold body one
   by_cases h:grd c=true
   · rw[if_pos h]
     show bl (92::c::(body l++[34]))=_
     rw[bl,if_pos (by decide),if_neg (by simp),ih]
   · rw[if_neg h]
     show bl (c::(body l++[34]))=_
     have hc:¬(c.toNat == 92)=true:=by
      intro h2;apply h;unfold grd;rw[h2];simp
     obtain⟨y,m,hm⟩:∃y m,body l++[34]=y::m:=List.exists_cons_of_ne_nil (by simp)
     rw[hm,bl,if_neg hc,←hm,ih]
theorem st_quoted (l:List UInt8):st ((quoted l).drop 1)=l:=by
 show st (body l++[34])=l
 rw[st_body l [34] (by simp)];simp[st]
theorem bl_quoted (l:List UInt8):bl ((quoted l).drop 1)=l:=bl_body l
theorem quoted_inj {l m:List UInt8}(h:quoted l=quoted m):l=m:=by
 rw[←st_quoted l,h,st_quoted]
theorem st_step (s:ByteArray)(k:Nat)(h:k+1<s.size):st (s.data.toList.drop k)=if s[k].toNat == 92 then s[k+1]::st (s.data.toList.drop (k+2))else s[k]::st (s.data.toList.drop (k+1)):=by
 have e1:s.data.toList.drop k=s[k]::s.data.toList.drop (k+1):=by
  rw[List.drop_eq_getElem_cons (by simp;omega)];rfl
 have e2:s.data.toList.drop (k+1)=s[k+1]::s.data.toList.drop (k+2):=by
  rw[List.drop_eq_getElem_cons (by simp;omega)];rfl
 rw[e1,e2,st]
theorem st_end (s:ByteArray)(k:Nat)(h:s.size≤k+1):st (s.data.toList.drop k)=[]:=by
 rcases Nat.lt_or_ge k s.size with hk | hk
 · have e1:s.data.toList.drop k=s[k]::s.data.toList.drop (k+1):=by
    rw[List.drop_eq_getElem_cons (by simpa using hk)];rfl
   rw[e1,List.drop_of_length_le (by simpa using h)];rfl
 · rw[List.drop_of_length_le (by simpa using hk)];rfl
theorem bl_step (s:ByteArray)(k:Nat)(h:k+2<s.size):bl (s.data.toList.drop k)=if s[k].toNat == 92 then s[k+1]::bl (s.data.toList.drop (k+2))else s[k]::bl (s.data.toList.drop (k+1)):=by
 have e1:s.data.toList.drop k=s[k]::s.data.toList.drop (k+1):=by
  rw[List.drop_eq_getElem_cons (by simp;omega)];rfl
 have e2:s.data.toList.drop (k+1)=s[k+1]::s.data.toList.drop (k+2):=by
  rw[List.drop_eq_getElem_cons (by simp;omega)];rfl
 have e3:(s.data.toList.drop (k+2)).isEmpty=false:=by
  have:(s.data.toList.drop (k+2)).length≠0:=by simp;omega
  cases hd:s.data.toList.drop (k+2)with
  | nil=>rw[hd]at this;simp at this
  | cons x y=>rfl
 rw[e1,e2,bl,e3];rfl
theorem bl_last (s:ByteArray)(k:Nat)(h:k+2=s.size):bl (s.data.toList.drop k)=if s[k].toNat == 92 then[]else s[k]::bl (s.data.toList.drop (k+1)):=by
 have e1:s.data.toList.drop k=s[k]::s.data.toList.drop (k+1):=by
  rw[List.drop_eq_getElem_cons (by simp;omega)];rfl
 have e2:s.data.toList.drop (k+1)=s[k+1]::s.data.toList.drop (k+2):=by
  rw[List.drop_eq_getElem_cons (by simp;omega)];rfl
 have e3:s.data.toList.drop (k+2)=[]:=List.drop_of_length_le (by simp;omega)
 rw[e1,e2,e3,bl];rfl
theorem bl_end (s:ByteArray)(k:Nat)(h:s.size≤k+1):bl (s.data.toList.drop k)=[]:=by
 rcases Nat.lt_or_ge k s.size with hk | hk
 · have e1:s.data.toList.drop k=s[k]::s.data.toList.drop (k+1):=by
    rw[List.drop_eq_getElem_cons (by simpa using hk)];rfl
   rw[e1,List.drop_of_length_le (by simpa using h)];rfl
 · rw[List.drop_of_length_le (by simpa using hk)];rfl
theorem bl_length:∀(n:Nat) (l:List UInt8),l.length≤n→(bl l).length≤l.length
 | _,[],_=>by simp[bl]
 | _,[_],_=>by simp[bl]
 | 0,_::_::_,h=>by simp at h
 | n+1,x::y::r,h=>by
   simp only[List.length_cons]at h
   have i1:=bl_length n r (by omega)
   have i2:=bl_length n (y::r) (by simp only[List.length_cons];omega)
   unfold bl
   split
   · split
     · simp
     · simp only[List.length_cons];omega
   · simp only[List.length_cons]at i2 ⊢; omega
theorem take_snoc (s:ByteArray)(k:Nat)(h:k<s.size):s.data.toList.take (k+1)=s.data.toList.take k++[s[k]]:=by
 rw[List.take_succ_eq_append_getElem (by simpa using h)];rfl
theorem take_all (s:ByteArray):s.data.toList.take s.size=s.data.toList:=List.take_of_length_le (by simp)
theorem all_take_bad (s:ByteArray)(k:Nat)(h:k<s.size)(hb:okb s[k]=false):s.data.toList.all okb=false:=by
 rw[List.all_eq_false]
 exact⟨s[k],by
  have:s[k]=s.data.toList[k]'(by simpa using h):=rfl
  rw[this];exact List.getElem_mem _,by simp[hb]⟩
def tfault (l:List UInt8):Int:=if l.length≤60 then(if l.all okb then 0 else 1)else 4
theorem tfault_long {l:List UInt8}(h:¬l.length≤60):tfault l=4:=if_neg h
theorem tfault_bad {l:List UInt8}(h:l.length≤60)(h2:l.all okb=false):tfault l=1:=by unfold tfault;rw[if_pos h,h2];rfl
theorem tfault_ok {l:List UInt8}(h:textOk l=true):tfault l=0:=by
 unfold textOk at h
 simp only[Bool.and_eq_true,decide_eq_true_eq]at h
 unfold tfault;rw[if_pos h.1,h.2];rfl
theorem tfault_not {l:List UInt8}(h:textOk l=false):tfault l≠0:=by
 unfold tfault
 unfold textOk at h
 by_cases h1:l.length≤60
 · rw[decide_eq_true h1,Bool.true_and]at h
   rw[if_pos h1,h];decide
 · rw[if_neg h1];decide
def ufault (t i:List UInt8):Int:=if nfault t=0 then tfault i else nfault t
theorem ufault_both {t i:List UInt8}(h:ufault t i=0):nfault t=0∧textOk i=true:=by
 unfold ufault at h
 by_cases h1:nfault t=0
 · rw[if_pos h1]at h
   refine⟨h1,?_⟩
   cases h2:textOk i
   · exact absurd h (tfault_not h2)
   · rfl
 · rw[if_neg h1]at h
   exact absurd h h1
theorem nfault_small {t:List UInt8}(h:nfault t=0):t.length≤20:=by
 unfold nfault at h
 by_cases h1:nm t=true
 · rw[if_pos h1]at h
   by_cases h2:20<t.length
   · rw[if_pos h2]at h;exact absurd h (by decide)
   · omega
 · rw[if_neg h1]at h;exact absurd h (by decide)
theorem ufault_small {t i:List UInt8}(h:ufault t i=0):t.length≤20∧i.length≤60:=by
 obtain⟨h1,h2⟩:=ufault_both h
 refine⟨nfault_small h1,?_⟩
 unfold textOk at h2
 rw[Bool.and_eq_true,decide_eq_true_eq]at h2
 exact h2.1
abbrev Pc:=Bool×UInt8
def pc1 (c:UInt8):Pc:=if c.toNat == 42 then(true,0)else(false,c)
def gst (c d:UInt8):Bool:=c.toNat == 92 && d.toNat == 42
def pcat:List UInt8→Pc
 | []=>(false,0)
 | [c]=>pc1 c
 | c::d::_=>if gst c d then(false,42)else pc1 c
def stat:List UInt8→Bool
 | c::d::_=>gst c d
 | _=>false
def psz (l:List UInt8):Nat:=if stat l then 2 else 1
def pcs:List UInt8→List Pc
 | []=>[]
 | [c]=>[pc1 c]
 | c::d::r=>if gst c d then(false,42)::pcs r else pc1 c::pcs (d::r)
def sts:List UInt8→Nat→List Nat
 | [],_=>[]
 | [_],i=>[i]
 | c::d::r,i=>if gst c d then i::sts r (i+2)else i::sts (d::r) (i+1)
def wone (x:Pc):List UInt8:=if x.1 then[42]else if x.2.toNat == 42 then[92,42]else[x.2]
def pwr:List Pc→List UInt8
 | []=>[]
 | x::r=>wone x++pwr r
theorem pcs_cons {l:List UInt8}(h:l≠[]):pcs l=pcat l::pcs (l.drop (psz l)):=by
 match l,h with
 | [c],_=>rfl
 | c::d::r,_=>
   have e1:psz (c::d::r)=if gst c d then 2 else 1:=rfl
   have e2:pcat (c::d::r)=if gst c d then(false,42)else pc1 c:=rfl
   rw[pcs,e1,e2]
   cases gst c d<;>rfl
theorem sts_cons {l:List UInt8}(h:l≠[])(i:Nat):sts l i=i::sts (l.drop (psz l)) (i+psz l):=by
 match l,h with
 | [c],_=>rfl
 | c::d::r,_=>
   have e1:psz (c::d::r)=if gst c d then 2 else 1:=rfl
   rw[sts,e1]
   cases gst c d<;>rfl
theorem pcat_cons (c d:UInt8)(r:List UInt8):pcat (c::d::r)=if gst c d then(false,42)else pc1 c:=rfl
theorem psz_cons (c d:UInt8)(r:List UInt8):psz (c::d::r)=if gst c d then 2 else 1:=rfl
theorem psz_pos (l:List UInt8):1≤psz l:=by unfold psz;split<;>omega
theorem psz_two (l:List UInt8):psz l≤2:=by unfold psz;split<;>omega
theorem psz_le {l:List UInt8}(h:l≠[]):psz l≤l.length:=by
 match l,h with
 | [c],_=>exact Nat.le_refl _
 | c::d::r,_=>have:=psz_two (c::d::r);simp only[List.length_cons];omega
theorem byte_same {c d:UInt8}(h:c.toNat=d.toNat):c=d:=UInt8.toNat_inj.1 h
theorem wone_pcat {l:List UInt8}(h:l≠[]):l.take (psz l)=wone (pcat l):=by
 have h1:∀c:UInt8,wone (pc1 c)=[c]:=fun c=>by
  unfold pc1 wone
  by_cases e:c.toNat=42
  · obtain rfl:c=42:=byte_same e
    rfl
  · have e':(c.toNat == 42)=false:=by simpa using e
    simp[e']
 match l,h with
 | [c],_=>exact(h1 c).symm
 | c::d::r,_=>
   have e1:psz (c::d::r)=if gst c d then 2 else 1:=rfl
   have e2:pcat (c::d::r)=if gst c d then(false,42)else pc1 c:=rfl
   rw[e1,e2]
   cases hg:gst c d
   · exact(h1 c).symm
   · unfold gst at hg
     simp only[Bool.and_eq_true,beq_iff_eq]at hg
     obtain rfl:c=92:=byte_same hg.1
     obtain rfl:d=42:=byte_same hg.2
     rfl
theorem wr_append:∀ps qs:List Pc,pwr (ps++qs)=pwr ps++pwr qs
 | [],_=>rfl
 | x::r,qs=>by simp[pwr,wr_append r qs]
theorem wr_pcs:∀(n:Nat) (l:List UInt8),l.length≤n→pwr (pcs l)=l
 | _,[],_=>rfl
 | 0,_::_,h=>by simp at h
 | n+1,c::l,h=>by
   have hne:c::l≠[]:=by simp
   have h1:=psz_pos (c::l)
   rw[pcs_cons hne,pwr,←wone_pcat hne,wr_pcs n _ (by simp only[List.length_drop,List.length_cons]at h ⊢; omega),List.take_append_drop]
theorem wr_read (l:List UInt8):pwr (pcs l)=l:=wr_pcs _ l (Nat.le_refl _)
theorem wone_len (x:Pc):1≤(wone x).length∧(wone x).length≤2:=by
 unfold wone
 by_cases h1:x.1=true
 · rw[if_pos h1];simp
 · rw[if_neg h1];split<;>simp
theorem wr_len:∀ps:List Pc,ps.length≤(pwr ps).length∧(pwr ps).length≤2*ps.length
 | []=>⟨Nat.le_refl _,Nat.le_refl _⟩
 | x::r=>by
   have:=wone_len x
   have:=wr_len r
   simp only[pwr,List.length_append,List.length_cons]
   omega
theorem pcs_len (l:List UInt8):(pcs l).length≤l.length:=by
 have:=(wr_len (pcs l)).1
 rw[wr_read]at this
 exact this
theorem sts_len:∀(n:Nat) (l:List UInt8) (i:Nat),l.length≤n→(sts l i).length=(pcs l).length
 | _,[],_,_=>rfl
 | 0,_::_,_,h=>by simp at h
 | n+1,c::l,i,h=>by
   have hne:c::l≠[]:=by simp
   have h1:=psz_pos (c::l)
   rw[pcs_cons hne,sts_cons hne,List.length_cons,List.length_cons,sts_len n _ _ (by simp only[List.length_drop,List.length_cons]at h ⊢; omega)]
theorem sts_length (l:List UInt8)(i:Nat):(sts l i).length=(pcs l).length:=sts_len _ l i (Nat.le_refl _)
theorem sts_at:∀(n:Nat) (l:List UInt8) (i k a:Nat),l.length≤n→(sts l i)[k]? =some a→
 i≤a∧a<i+l.length∧pcs (l.drop (a-i))=(pcs l).drop k∧((sts l i)[k+1]?).getD (i+l.length)=a+psz (l.drop (a-i))
 | _,[],i,k,a,_,h=>by simp[sts]at h
 | 0,_::_,_,_,_,h,_=>by simp at h
 | n+1,c::l,i,k,a,h,hk=>by
   have hne:c::l≠[]:=by simp
   have h1:=psz_pos (c::l)
   have h2:=psz_le hne
   rw[sts_cons hne]at hk ⊢
   match k,hk with
   | 0,hk=>
     obtain rfl:i=a:=by simpa using hk
     refine⟨Nat.le_refl _,by simp,by simp,?_⟩
     rw[Nat.sub_self,List.drop_zero,List.getElem?_cons_succ]
     generalize hm:(c::l).drop (psz (c::l))=m
     have hml:m.length=(c::l).length-psz (c::l):=by rw[←hm,List.length_drop]
     match m,hml with
     | [],hml=>simp only[sts,List.getElem?_nil,Option.getD_none];simp only[List.length_nil]at hml;omega
     | d::m,hml=>rw[sts_cons (by simp)];rfl
   | k+1,hk=>
     rw[List.getElem?_cons_succ]at hk
     obtain⟨k1,k2,k3,k4⟩:=sts_at n _ _ k a (by simp only[List.length_drop,List.length_cons]at h ⊢; omega) hk
     rw[List.length_drop]at k2 k4
     have e1:psz (c::l)+(a-(i+psz (c::l)))=a-i:=by omega
     have e2:i+psz (c::l)+((c::l).length-psz (c::l))=i+(c::l).length:=by omega
     rw[List.drop_drop,e1]at k3 k4
     rw[e2]at k4
     refine⟨by omega,by omega,?_,?_⟩
     · rw[k3,pcs_cons hne,List.drop_succ_cons]
     · rw[List.getElem?_cons_succ];exact k4
theorem starts_at {l:List UInt8}{k a:Nat}(h:(sts l 0)[k]? =some a):a<l.length∧pcs (l.drop a)=(pcs l).drop k∧((sts l 0)[k+1]?).getD l.length=a+psz (l.drop a):=by
 obtain⟨_,h2,h3,h4⟩:=sts_at _ l 0 k a (Nat.le_refl _) h
 simp only[Nat.sub_zero,Nat.zero_add]at h2 h3 h4
 exact⟨h2,h3,h4⟩
def mch (c:UInt8)(f:List UInt8→Bool):List UInt8→Bool
 | []=>false
 | d::r=>d == c && f r
def pM:List Pc→List UInt8→Bool
 | [],s=>s.isEmpty
 | x::ps,s=>if x.1 then(List.range (s.length+1)).any (fun j=>pM ps (s.drop j))else mch x.2 (pM ps) s
def pOne (x:Pc)(a:List UInt8):Prop:=x.1=true∨a=[x.2]
def pFit:List Pc→List UInt8→Prop
 | [],s=>s=[]
 | x::ps,s=>∃a b,s=a++b∧pOne x a∧pFit ps b
theorem M_iff:∀ps s,pM ps s=true↔pFit ps s
 | [],s=>by simp[pM,pFit]
 | x::ps,s=>by
   have ih:=M_iff ps
   unfold pM pFit
   by_cases h:x.1=true
   · rw[if_pos h,List.any_eq_true]
     constructor
     · rintro⟨j,_,hj⟩
       exact⟨s.take j,s.drop j,(List.take_append_drop j s).symm,.inl h,(ih _).1 hj⟩
     · rintro⟨a,b,rfl,_,hb⟩
       exact⟨a.length,by simp;omega,by rw[List.drop_left];exact(ih _).2 hb⟩
   · rw[if_neg h]
     constructor
     · intro hm
       match s,hm with
       | d::r,hm=>
         simp only[mch,Bool.and_eq_true,beq_iff_eq]at hm
         exact⟨[d],r,rfl,.inr (by rw[hm.1]),(ih _).1 hm.2⟩
     · rintro⟨a,b,rfl,h1,hb⟩
       rcases h1 with h1 | rfl
       · exact absurd h1 h
       · show(x.2 == x.2 && pM ps b)=true
         rw[beq_self_eq_true,Bool.true_and];exact(ih _).2 hb
theorem fit_append:∀(ps qs:List Pc) (s:List UInt8),pFit (ps++qs) s↔∃a b,s=a++b∧pFit ps a∧pFit qs b
 | [],qs,s=>by
   constructor
   · intro h;exact⟨[],s,rfl,rfl,h⟩
   · rintro⟨a,b,rfl,rfl,h⟩;exact h
 | x::ps,qs,s=>by
   have ih:=fit_append ps qs
   constructor
   · rintro⟨a,b,rfl,h1,h2⟩
     obtain⟨c,d,rfl,h3,h4⟩:=(ih b).1 h2
     exact⟨a++c,d,by simp,⟨a,c,rfl,h1,h3⟩,h4⟩
   · rintro⟨a,b,rfl,⟨c,d,rfl,h1,h3⟩,h4⟩
     exact⟨c,d++b,by simp,h1,(ih _).2 ⟨d,b,rfl,h3,h4⟩⟩
theorem bool_iff {a b:Bool}(h:a=true↔b=true):a=b:=Bool.eq_iff_iff.2 h
theorem fit_one (x:Pc)(s:List UInt8):pFit [x] s↔pOne x s:=by
 constructor
 · rintro⟨a,b,rfl,h,rfl⟩;simpa using h
 · intro h;exact⟨s,[],by simp,h,rfl⟩
def por (f:Nat→Bool)(j:Nat):Bool:=(List.range (j+1)).any f
theorem por_zero (f:Nat→Bool):por f 0=f 0:=by simp[por]
theorem por_succ (f:Nat→Bool)(j:Nat):por f (j+1)=(f (j+1) || por f j):=by
 unfold por
 rw[List.range_succ,List.any_append]
 simp[Bool.or_comm]
theorem M_wild (ps:List Pc)(x:Pc)(hx:x.1=true)(s:List UInt8)(j:Nat)(hj:j≤s.length):pM (ps++[x]) (s.take j)=por (fun i=>pM ps (s.take i)) j:=by
 apply bool_iff
 unfold por
 rw[M_iff,fit_append,List.any_eq_true]
 constructor
 · rintro⟨a,b,hab,h1,_⟩
   have hl:a.length≤j:=by
    have:=congrArg List.length hab
    rw[List.length_take,List.length_append]at this
    omega
   refine⟨a.length,by simp;omega,?_⟩
   have:s.take a.length=a:=by
    have h2:(s.take j).take a.length=a:=by rw[hab,List.take_left]
    rw[List.take_take,Nat.min_eq_left hl]at h2
    exact h2
   show pM ps (s.take a.length)=true
   rw[this];exact(M_iff _ _).2 h1
 · rintro⟨i,hi,h⟩
   have hi':i≤j:=by simp at hi;omega
   refine⟨s.take i,(s.take j).drop i,?_,(M_iff _ _).1 h,(fit_one _ _).2 (.inl hx)⟩
   have:=List.take_append_drop i (s.take j)
   rw[List.take_take,Nat.min_eq_left hi']at this
   exact this.symm
theorem M_char (ps:List Pc)(x:Pc)(hx:x.1=false)(s:List UInt8)(d:UInt8):pM (ps++[x]) (s++[d])=(pM ps s && d == x.2):=by
 apply bool_iff
 rw[M_iff,fit_append,Bool.and_eq_true,M_iff,beq_iff_eq]
 constructor
 · rintro⟨a,b,hab,h1,h2⟩
   rcases(fit_one _ _).1 h2 with h | rfl
   · rw[hx]at h;cases h
   · obtain⟨rfl,e⟩:=List.append_inj' hab rfl
     exact⟨h1,by simpa using e⟩
 · rintro⟨h1,rfl⟩
   exact⟨s,[x.2],rfl,h1,(fit_one _ _).2 (.inr rfl)⟩
theorem M_char_nil (ps:List Pc)(x:Pc)(hx:x.1=false):pM (ps++[x]) []=false:=by
 cases h:pM (ps++[x]) []
 · rfl
 · obtain⟨a,b,hab,_,h2⟩:=(fit_append _ _ _).1 ((M_iff _ _).1 h)
   rcases(fit_one _ _).1 h2 with h | rfl
   · rw[hx]at h;cases h
   · simp at hab
theorem M_wild_step (x:Pc)(hx:x.1=true)(ps:List Pc)(s:List UInt8)(m:Nat)(hm:m<s.length):pM (x::ps) (s.drop m)=(pM ps (s.drop m) || pM (x::ps) (s.drop (m+1))):=by
 apply bool_iff
 rw[Bool.or_eq_true,M_iff,M_iff,M_iff]
 constructor
 · rintro⟨a,b,hab,_,h2⟩
   match a,hab with
   | [],hab=>exact .inl (by rw[hab];exact h2)
   | c::a,hab=>
     refine .inr ⟨a,b,?_,.inl hx,h2⟩
     rw[←List.drop_drop,hab];rfl
 · rintro(h | ⟨a,b,hab,_,h2⟩)
   · exact⟨[],_,rfl,.inl hx,h⟩
   · refine⟨s[m]::a,b,?_,.inl hx,h2⟩
     rw[List.drop_eq_getElem_cons hm,hab];rfl
theorem M_wild_end (x:Pc)(hx:x.1=true)(ps:List Pc):pM (x::ps) []=pM ps []:=by
 rw[pM,if_pos hx];simp
theorem M_char_step (x:Pc)(hx:x.1=false)(ps:List Pc)(s:List UInt8)(m:Nat)(hm:m<s.length):pM (x::ps) (s.drop m)=(s[m] == x.2 && pM ps (s.drop (m+1))):=by
 rw[pM,if_neg (by rw[hx];decide),List.drop_eq_getElem_cons hm];rfl
theorem M_char_end (x:Pc)(hx:x.1=false)(ps:List Pc):pM (x::ps) []=false:=by
 rw[pM,if_neg (by rw[hx];decide)];rfl
def plit (l:List UInt8):List Pc:=l.map fun c=>(false,c)
theorem M_lit:∀l t:List UInt8,pM (plit l) t=(l == t)
 | [],[]=>rfl
 | [],_::_=>rfl
 | c::l,[]=>rfl
 | c::l,d::t=>by
   have ih:=M_lit l t
   show(d == c && pM (plit l) t)=_
   rw[ih]
   apply bool_iff
   simp only[Bool.and_eq_true,beq_iff_eq,List.cons.injEq]
   exact⟨fun⟨a,b⟩=>⟨a.symm,b⟩,fun⟨a,b⟩=>⟨a.symm,b⟩⟩
theorem M_begins:∀l t:List UInt8,pM (plit l++[(true,0)]) t=l.isPrefixOf t
 | [],t=>by
   show pM [(true,0)] t=_
   rw[pM,if_pos rfl]
   simp only[List.isPrefixOf_nil_left]
   rw[List.any_eq_true]
   exact⟨t.length,by simp,by simp[pM]⟩
 | c::l,[]=>rfl
 | c::l,d::t=>by
   have ih:=M_begins l t
   show(d == c && pM (plit l++[(true,0)]) t)=_
   rw[ih,List.isPrefixOf]
   congr 1
   apply bool_iff
   simp only[beq_iff_eq]
   exact⟨Eq.symm,Eq.symm⟩
theorem prefix_take (l t:List UInt8):l.isPrefixOf t=(decide (l.length≤t.length) && (t.take l.length == l)):=by
 apply bool_iff
 rw[List.isPrefixOf_iff_prefix,Bool.and_eq_true,decide_eq_true_eq,beq_iff_eq]
 constructor
 · intro h
   exact⟨h.length_le,(List.prefix_iff_eq_take.1 h).symm⟩
 · rintro⟨_,h⟩
   exact List.prefix_iff_eq_take.2 h.symm
theorem M_splits (P Q:List Pc)(s:List UInt8):pM (P++(true,0)::Q) s=true↔∃i j,i≤j∧j≤s.length∧pM P (s.take i)=true∧pM Q (s.drop j)=true:=by
 rw[M_iff,fit_append]
 constructor
 · rintro⟨a,b,rfl,h1,c,d,rfl,_,h2⟩
   refine⟨a.length,a.length+c.length,by omega,by simp only[List.length_append];omega,?_,?_⟩
   · rw[List.take_left];exact(M_iff _ _).2 h1
   · rw[←List.drop_drop,List.drop_left,List.drop_left];exact(M_iff _ _).2 h2
 · rintro⟨i,j,hij,hj,h1,h2⟩
   refine⟨s.take i,s.drop i,(List.take_append_drop i s).symm,(M_iff _ _).1 h1,(s.drop i).take (j-i),s.drop j,?_,.inl rfl,(M_iff _ _).1 h2⟩
   have:=List.take_append_drop (j-i) (s.drop i)
   rw[List.drop_drop,show i+(j-i)=j by omega]at this
   exact this.symm
def pcp:Bool→List Pc→List Pc
 | _,[]=>[]
 | b,x::r=>if b && x.1 then pcp x.1 r else x::pcp x.1 r
def pcpn (ps:List Pc):Nat→List Pc
 | 0=>[]
 | k+1=>if decide (0<k) && ((ps.getD k (false,0)).1 && (ps.getD (k-1) (false,0)).1)then pcpn ps k else pcpn ps k++[ps.getD k (false,0)]
def lastw (b:Bool):List Pc→Bool
 | []=>b
 | x::r=>lastw x.1 r
theorem cp_snoc:∀(l:List Pc) (b:Bool) (x:Pc),pcp b (l++[x])=pcp b l++(if lastw b l && x.1 then[]else[x])
 | [],b,x=>rfl
 | y::l,b,x=>by
   show(if b && y.1 then pcp y.1 (l++[x])else y::pcp y.1 (l++[x]))=(if b && y.1 then pcp y.1 l else y::pcp y.1 l)++(if lastw y.1 l && x.1 then[]else[x])
   rw[cp_snoc l y.1 x]
   cases (b && y.1)<;>rfl
theorem lastw_snoc:∀(l:List Pc) (b:Bool) (x:Pc),lastw b (l++[x])=x.1
 | [],_,_=>rfl
 | y::l,_,x=>lastw_snoc l y.1 x
theorem cpn_eq (ps:List Pc):∀k,k≤ps.length→pcpn ps k=pcp false (ps.take k)
 | 0,_=>rfl
 | k+1,h=>by
   have ih:=cpn_eq ps k (by omega)
   have e:ps.getD k (false,0)=ps[k]:=by simp[List.getD,show k<ps.length by omega]
   rw[pcpn,ih,e,List.take_succ_eq_append_getElem (by omega),cp_snoc]
   have hl:(decide (0<k) && (ps[k].1 && (ps.getD (k-1) (false,0)).1))=(lastw false (ps.take k) && ps[k].1):=by
    match k,h with
    | 0,_=>simp[lastw]
    | k+1,h=>
      have e2:ps.getD (k+1-1) (false,0)=ps[k]:=by simp[List.getD,show k<ps.length by omega]
      rw[e2,List.take_succ_eq_append_getElem (by omega),lastw_snoc]
      simp[Bool.and_comm]
   rw[hl]
   cases (lastw false (ps.take k) && ps[k].1)<;>simp
theorem cpn_all (ps:List Pc):pcpn ps ps.length=pcp false ps:=by rw[cpn_eq ps _ (Nat.le_refl _),List.take_length]
theorem wild_twice (x y:Pc)(hx:x.1=true)(hy:y.1=true)(ps:List Pc)(s:List UInt8):pFit (x::y::ps) s↔pFit (x::ps) s:=by
 constructor
 · rintro⟨a,b,rfl,_,c,d,rfl,_,h⟩
   exact⟨a++c,d,by simp,.inl hx,h⟩
 · rintro⟨a,b,rfl,_,h⟩
   exact⟨a,b,rfl,.inl hx,[],b,rfl,.inl hy,h⟩
theorem fit_cons {x:Pc}{ps qs:List Pc}(h:∀s,pFit ps s↔pFit qs s)(s:List UInt8):pFit (x::ps) s↔pFit (x::qs) s:=by
 constructor
 · rintro⟨a,b,e,h1,h2⟩;exact⟨a,b,e,h1,(h b).1 h2⟩
 · rintro⟨a,b,e,h1,h2⟩;exact⟨a,b,e,h1,(h b).2 h2⟩
theorem fit_cp:∀ps:List Pc,(∀s,pFit (pcp false ps) s↔pFit ps s)∧∀(x:Pc),x.1=true→∀s,pFit (x::pcp true ps) s↔pFit (x::ps) s
 | []=>⟨fun _=>Iff.rfl,fun _ _ _=>Iff.rfl⟩
 | y::r=>by
   obtain⟨i1,i2⟩:=fit_cp r
   cases hy:y.1
   · refine⟨fun s=>?_,fun x hx s=>?_⟩
     · rw[pcp,hy];exact fit_cons i1 s
     · rw[pcp,hy];exact fit_cons (fit_cons i1) s
   · refine⟨fun s=>?_,fun x hx s=>?_⟩
     · rw[pcp,hy];exact i2 y hy s
     · rw[pcp,hy]
       exact(i2 x hx s).trans (wild_twice x y hx hy r s).symm
theorem M_cp (ps:List Pc)(s:List UInt8):pM (pcp false ps) s=pM ps s:=bool_iff (by rw[M_iff,M_iff];exact(fit_cp ps).1 s)
theorem cp_cp:∀(ps:List Pc) (b:Bool),pcp b (pcp b ps)=pcp b ps
 | [],_=>rfl
 | y::r,b=>by
   have ih:=cp_cp r
   cases b<;>cases hy:y.1<;>simp[pcp,hy,ih]
def isbs (x:Pc):Bool:= !x.1 && x.2.toNat == 92
def pCan:Bool→List Pc→Prop
 | _,[]=>True
 | b,x::r=>(x.1=true→x.2=0∧b=false)∧pCan (isbs x) r
def lastb (b:Bool):List Pc→Bool
 | []=>b
 | x::r=>lastb (isbs x) r
theorem can_append:∀(ps qs:List Pc) (b:Bool),pCan b (ps++qs)↔pCan b ps∧pCan (lastb b ps) qs
 | [],qs,b=>by simp[pCan,lastb]
 | x::r,qs,b=>by simp only[List.cons_append,pCan,lastb,can_append r qs,and_assoc]
theorem can_lit:∀(l:List UInt8) (b:Bool),pCan b (plit l)
 | [],_=>trivial
 | c::l,b=>⟨fun h=>(by cases h),can_lit l _⟩
theorem can_cp:∀(ps:List Pc) (b p:Bool),pCan b ps→(p=true→b=false)→pCan b (pcp p ps)
 | [],_,_,_,_=>trivial
 | x::r,b,p,⟨h1,h2⟩,hp=>by
   rw[pcp]
   cases hx:x.1
   · rw[Bool.and_false]
     exact⟨fun h=>(by rw[hx]at h;cases h),can_cp r _ _ h2 (fun h=>(by cases h))⟩
   · have hb:=(h1 hx).2
     have hi:isbs x=false:=by unfold isbs;rw[hx];rfl
     rw[hi]at h2
     cases p
     · exact⟨h1,by rw[hi];exact can_cp r _ _ h2 (fun _=>rfl)⟩
     · rw[hb]
       exact can_cp r false true h2 (fun _=>rfl)
theorem can_pcs:∀(n:Nat) (l:List UInt8) (b:Bool),l.length≤n→(b=true→l.head? ≠some 42)→pCan b (pcs l)
 | _,[],_,_,_=>trivial
 | 0,_::_,_,h,_=>by simp at h
 | n+1,c::l,b,h,hb=>by
   have hne:c::l≠[]:=by simp
   have h1:=psz_pos (c::l)
   rw[pcs_cons hne]
   have hc:∀c:UInt8,(pc1 c).1=true→c=42∧(pc1 c).2=0:=fun c h=>by
    unfold pc1 at h ⊢
    by_cases e:(c.toNat == 42)=true
    · rw[if_pos e]
      exact⟨byte_same (by simpa using e),rfl⟩
    · rw[if_neg e]at h;cases h
   have hc2:∀c:UInt8,isbs (pc1 c)=true→c.toNat=92:=fun c h=>by
    unfold pc1 isbs at h
    by_cases e:(c.toNat == 42)=true
    · rw[if_pos e]at h;cases h
    · rw[if_neg e]at h
      simpa using h
   refine⟨fun hx=>?_,can_pcs n _ _ (by simp only[List.length_drop,List.length_cons]at h ⊢; omega) (fun hbs=>?_)⟩
   · match l,hx with
     | [],hx=>
       obtain⟨e1,e2⟩:=hc c hx
       refine⟨e2,?_⟩
       cases b
       · rfl
       · exact absurd (by rw[e1];rfl) (hb rfl)
     | d::l,hx=>
       rw[pcat_cons]at hx ⊢
       cases hg:gst c d
       · rw[hg]at hx
         obtain⟨e1,e2⟩:=hc c hx
         refine⟨e2,?_⟩
         cases b
         · rfl
         · exact absurd (by rw[e1];rfl) (hb rfl)
       · rw[hg]at hx;cases hx
   · match l,hbs with
     | [],hbs=>unfold psz stat;simp
     | d::l,hbs=>
       rw[pcat_cons]at hbs
       cases hg:gst c d
       · rw[hg]at hbs
         have:=hc2 c hbs
         rw[psz_cons,hg]
         intro hd
         have hd':d=42:=by simpa using hd
         unfold gst at hg
         rw[this,hd']at hg
         cases hg
       · rw[hg]at hbs
         cases hbs
theorem can_read (l:List UInt8):pCan false (pcs l):=can_pcs _ l false (Nat.le_refl _) (fun h=>by cases h)
theorem pcs_star (l:List UInt8):pcs (42::l)=(true,0)::pcs l:=by
 match l with
 | []=>rfl
 | d::l=>rfl
theorem pcs_guard (l:List UInt8):pcs (92::42::l)=(false,42)::pcs l:=rfl
theorem pcs_plain (c:UInt8)(l:List UInt8)(h1:c.toNat≠42)(h2:c.toNat=92→l.head? ≠some 42):pcs (c::l)=(false,c)::pcs l:=by
 have e:pc1 c=(false,c):=by unfold pc1;rw[if_neg (by simpa using h1)]
 match l,h2 with
 | [],_=>show[pc1 c]=_;rw[e];rfl
 | d::l,h2=>
   rw[pcs,if_neg,e]
   intro hg
   unfold gst at hg
   simp only[Bool.and_eq_true,beq_iff_eq]at hg
   exact h2 hg.1 (by rw[show d=42 from byte_same hg.2];rfl)
theorem head_wr:∀r:List Pc,pCan true r→(pwr r).head? ≠some 42
 | [],_=>by simp[pwr]
 | x::r,⟨h1,_⟩=>by
   cases hx:x.1
   · unfold pwr wone
     rw[hx]
     by_cases e:(x.2.toNat == 42)=true
     · simp[e]
     · have e':(x.2.toNat == 42)=false:=by simpa using e
       simp only[e',Bool.false_eq_true,if_false,List.cons_append,List.head?_cons]
       intro h
       have:x.2=42:=by simpa using h
       rw[this]at e'
       cases e'
   · exact absurd (h1 hx).2 (by decide)
theorem pcs_wr:∀(ps:List Pc) (b:Bool),pCan b ps→pcs (pwr ps)=ps
 | [],_,_=>rfl
 | x::r,b,⟨h1,h2⟩=>by
   have ih:=pcs_wr r _ h2
   unfold pwr wone
   cases hx:x.1
   · by_cases e:(x.2.toNat == 42)=true
     · have e2:x.2=42:=byte_same (by simpa using e)
       simp only[Bool.false_eq_true,if_false,e,if_true,List.cons_append,List.nil_append]
       rw[pcs_guard,ih,←e2,←hx]
     · have e':(x.2.toNat == 42)=false:=by simpa using e
       simp only[Bool.false_eq_true,if_false,e',List.cons_append,List.nil_append]
       rw[pcs_plain x.2 (pwr r) (by simpa using e) ?_,ih,←hx]
       intro h92
       have hi:isbs x=true:=by unfold isbs;rw[hx,h92];rfl
       rw[hi]at h2
       exact head_wr r h2
   · simp only[if_true,List.cons_append,List.nil_append]
     rw[pcs_star,ih,←(h1 hx).1,←hx]
theorem last_wr:∀(ps:List Pc) (b:Bool),lastb b ps=true→ps≠[]→(pwr ps).getLast? =some 92
 | [],_,_,h=>absurd rfl h
 | [x],b,h,_=>by
   have h':isbs x=true:=h
   unfold isbs at h'
   simp only[Bool.and_eq_true,Bool.not_eq_true',beq_iff_eq]at h'
   have e:x.2=92:=byte_same h'.2
   simp[pwr,wone,h'.1,e]
 | x::y::r,b,h,_=>by
   have ih:=last_wr (y::r) (isbs x) h (by simp)
   rw[pwr,List.getLast?_append,ih];rfl
theorem last_pcs {l:List UInt8}(h:l.getLast? ≠some 92):lastb false (pcs l)=false:=by
 cases hb:lastb false (pcs l)
 · rfl
 · match hl:pcs l with
   | []=>rw[hl]at hb;cases hb
   | x::r=>
     have:=last_wr (pcs l) false hb (by rw[hl];simp)
     rw[wr_read]at this
     exact absurd this h
theorem last_lit:∀(l:List UInt8) (b:Bool),lastb b (plit l)=true→l≠[]→l.getLast? =some 92
 | [],_,_,h=>absurd rfl h
 | [c],b,h,_=>by
   have h':isbs (false,c)=true:=h
   have:c.toNat=92:=by simpa[isbs]using h'
   rw[show c=92 from byte_same this];rfl
 | c::d::l,b,h,_=>by
   have ih:=last_lit (d::l) (isbs (false,c)) h (by simp)
   rw[List.getLast?_cons_cons];exact ih
theorem pcs_lit (l:List UInt8):pcs (pwr (plit l))=plit l:=pcs_wr _ false (can_lit l false)
theorem pcs_begins (l:List UInt8)(h:l.getLast? ≠some 92):pcs (pwr (plit l)++[42])=plit l++[(true,0)]:=by
 have e:pwr (plit l)++[42]=pwr (plit l++[(true,0)]):=by rw[wr_append];rfl
 rw[e]
 refine pcs_wr _ false ((can_append _ _ _).2 ⟨can_lit l false,fun _=>⟨rfl,?_⟩,trivial⟩)
 cases hb:lastb false (plit l)
 · rfl
 · match l,h,hb with
   | [],_,hb=>cases hb
   | c::l,h,hb=>exact absurd (last_lit _ _ hb (by simp)) h
theorem pcs_splits (p q:List UInt8)(h:p.getLast? ≠some 92):pcs (p++[42]++q)=pcs p++(true,0)::pcs q:=by
 have e:p++[42]++q=pwr (pcs p++(true,0)::pcs q):=by
  rw[wr_append,wr_read,pwr,wr_read]
  simp[wone]
 rw[e]
 exact pcs_wr _ false ((can_append _ _ _).2 ⟨can_read p,fun _=>⟨rfl,last_pcs h⟩,can_read q⟩)
theorem pcs_short (l:List UInt8):pcs (pwr (pcp false (pcs l)))=pcp false (pcs l):=pcs_wr _ false (can_cp _ _ _ (can_read l) (fun h=>by cases h))
theorem wr_cp:∀(ps:List Pc) (b:Bool),(pwr (pcp b ps)).length≤(pwr ps).length∧∀f:UInt8→Bool,(pwr ps).all f=true→(pwr (pcp b ps)).all f=true
 | [],_=>⟨Nat.le_refl _,fun _ h=>h⟩
 | x::r,b=>by
   obtain⟨i1,i2⟩:=wr_cp r x.1
   rw[pcp]
   split
   · refine⟨by simp only[pwr,List.length_append];omega,fun f h=>?_⟩
     simp only[pwr,List.all_append,Bool.and_eq_true]at h
     exact i2 f h.2
   · refine⟨by simp only[pwr,List.length_append];omega,fun f h=>?_⟩
     simp only[pwr,List.all_append,Bool.and_eq_true]at h ⊢
     exact⟨h.1,i2 f h.2⟩
theorem short_len (l:List UInt8):(pwr (pcp false (pcs l))).length≤l.length:=by
 have:=(wr_cp (pcs l) false).1
 rw[wr_read]at this;exact this
theorem short_ok {l:List UInt8}(h:textOk l=true):textOk (pwr (pcp false (pcs l)))=true:=by
 unfold textOk at *
 simp only[Bool.and_eq_true,decide_eq_true_eq]at h ⊢
 exact⟨Nat.le_trans (short_len l) h.1,(wr_cp (pcs l) false).2 okb (by rw[wr_read];exact h.2)⟩
theorem lit_all:∀(l:List UInt8),l.all okb=true→(pwr (plit l)).all okb=true
 | [],_=>rfl
 | c::l,h=>by
   simp only[List.all_cons,Bool.and_eq_true]at h
   have ih:=lit_all l h.2
   show(wone (false,c)++pwr (plit l)).all okb=true
   rw[List.all_append,ih,Bool.and_true]
   unfold wone
   simp only[Bool.false_eq_true,if_false]
   split
   · decide
   · simp[h.1]
theorem lit_len:∀(l:List UInt8),l.length≤(pwr (plit l)).length:=fun l=>by
 have:=(wr_len (plit l)).1
 simpa[plit]using this
end Go.Proofs.YtlnhaajjoplafaaGreatDoor
