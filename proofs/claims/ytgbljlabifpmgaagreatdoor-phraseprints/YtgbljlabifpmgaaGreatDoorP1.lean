import Derived.Lib.Strings
set_option linter.unusedVariables false
set_option maxHeartbeats 12000000
namespace Go.Proofs.YtgbljlabifpmgaaGreatDoor
def letb (c:UInt8):Bool:=decide (65≤c.toNat) && decide (c.toNat≤90) || decide (97≤c.toNat) && decide (c.toNat≤122) || c.toNat == 95
def digb (c:UInt8):Bool:=decide (48≤c.toNat) && decide (c.toNat≤57)
def pre:List UInt8→Bool
 | []=>true
 | c::r=>letb c && r.all fun d=>letb d || digb d
def nm (l:List UInt8):Bool:=pre l && !l.isEmpty
def nfault (l:List UInt8):Int:=if nm l then(if 20<l.length then 4 else 0)else 1
theorem pre_left {l m:List UInt8}(h:pre (l++m)=true):pre l=true:=by
 cases l with
 | nil=>rfl
 | cons c r=>
   simp only[List.cons_append,pre,Bool.and_eq_true,List.all_append]at h ⊢
   exact⟨h.1,h.2.1⟩
theorem pre_snoc (l:List UInt8)(c:UInt8):pre (l++[c])=(pre l && (letb c || (!l.isEmpty && digb c))):=by
 cases l with
 | nil=>simp[pre]
 | cons d r=>simp[pre,Bool.and_assoc]
theorem pre_bad (s:ByteArray)(k:Nat)(h:k<s.size)(hb:(letb s[k] || (!(k == 0) && digb s[k]))=false):pre s.data.toList=false:=by
 have hl:s.data.toList.length=s.size:=by simp
 cases hp:pre s.data.toList with
 | false=>rfl
 | true=>
   have e:s.data.toList.take (k+1)=s.data.toList.take k++[s[k]]:=by
    rw[List.take_succ_eq_append_getElem (by omega)];rfl
   have h1:pre (s.data.toList.take (k+1))=true:=pre_left (m:=s.data.toList.drop (k+1)) (by rw[List.take_append_drop];exact hp)
   rw[e,pre_snoc]at h1
   have h2:(s.data.toList.take k).isEmpty=(k == 0):=by
    cases k with
    | zero=>rfl
    | succ j=>
      have:(s.data.toList.take (j+1)).length=j+1:=by rw[List.length_take];omega
      cases ht:s.data.toList.take (j+1)with
      | nil=>rw[ht]at this;simp at this
      | cons x y=>rfl
   rw[h2,hb]at h1
   simp at h1
theorem pre_go (s:ByteArray)(k:Nat)(h:k<s.size)(hp:pre (s.data.toList.take k)=true)(hb:(letb s[k] || (!(k == 0) && digb s[k]))=true):pre (s.data.toList.take (k+1))=true:=by
 have hl:s.data.toList.length=s.size:=by simp
 have e:s.data.toList.take (k+1)=s.data.toList.take k++[s[k]]:=by
  rw[List.take_succ_eq_append_getElem (by omega)];rfl
 rw[e,pre_snoc,hp,Bool.true_and]
 have h2:(s.data.toList.take k).isEmpty=(k == 0):=by
  cases k with
  | zero=>rfl
  | succ j=>
    have:(s.data.toList.take (j+1)).length=j+1:=by rw[List.length_take];omega
    cases ht:s.data.toList.take (j+1)with
    | nil=>rw[ht]at this;simp at this
    | cons x y=>rfl
 rw[h2];exact hb
theorem nm_of_bad {l:List UInt8}(h:pre l=false):nm l=false:=by unfold nm;rw[h];rfl
theorem nm_of_pre {l:List UInt8}(h:pre l=true):nm l= !l.isEmpty:=by unfold nm;rw[h];rfl
theorem empty_size (s:ByteArray):s.data.toList.isEmpty=(s.size == 0):=by
 have:s.data.toList.length=s.size:=by simp
 cases h:s.data.toList with
 | nil=>rw[h]at this;simp at this;simp[←this]
 | cons x y=>rw[h]at this;simp at this;simp[←this]
def okb (c:UInt8):Bool:=decide (32≤c.toNat) && decide (c.toNat≤126)
def grd (c:UInt8):Bool:=c.toNat == 34 || c.toNat == 92
def one (c:UInt8):List UInt8:=if grd c then[92,c]else[c]
def body:List UInt8→List UInt8
 | []=>[]
 | c::l=>one c++body l
def quoted (l:List UInt8):List UInt8:=34::(body l++[34])
def textOk (l:List UInt8):Bool:=decide (l.length≤60) && l.all okb
theorem body_snoc (l:List UInt8)(c:UInt8):body (l++[c])=body l++one c:=by
 induction l with
 | nil=>simp[body]
 | cons d l ih=>simp[body,ih]
theorem one_length (c:UInt8):(one c).length≤2:=by unfold one;split<;>simp
theorem body_length (l:List UInt8):(body l).length≤2*l.length:=by
 induction l with
 | nil=>simp[body]
 | cons c l ih=>have:=one_length c;simp only[body,List.length_append,List.length_cons];omega
theorem body_length_ge (l:List UInt8):l.length≤(body l).length:=by
 induction l with
 | nil=>simp[body]
 | cons c l ih=>
   have:1≤(one c).length:=by unfold one;split<;>simp
   simp only[body,List.length_append,List.length_cons];omega
def st:List UInt8→List UInt8
 | []=>[]
 | [_]=>[]
 | x::y::r=>if x.toNat == 92 then y::st r else x::st (y::r)
def bl:List UInt8→List UInt8
 | []=>[]
 | [_]=>[]
 | x::y::r=>if x.toNat == 92 then(if r.isEmpty then[]else y::bl r)else x::bl (y::r)
theorem st_length:∀(n:Nat) (l:List UInt8),l.length≤n→(st l).length≤l.length
 | _,[],_=>by simp[st]
 | _,[_],_=>by simp[st]
 | 0,_::_::_,h=>by simp at h
 | n+1,x::y::r,h=>by
   simp only[List.length_cons]at h
   have i1:=st_length n r (by omega)
   have i2:=st_length n (y::r) (by simp only[List.length_cons];omega)
   unfold st
   split
   · simp only[List.length_cons];omega
   · simp only[List.length_cons]at i2 ⊢; omega
theorem st_body (l r:List UInt8)(hr:r≠[]):st (body l++r)=l++st r:=by
 induction l with
 | nil=>rfl
 | cons c l ih=>
   unfold body one
   obtain⟨x,r',hx⟩:=List.exists_cons_of_ne_nil hr
   by_cases h:grd c=true
   · rw[if_pos h]
     show st (92::c::(body l++r))=_
     rw[st,if_pos (by decide),ih];rfl
   · rw[if_neg h]
     show st (c::(body l++r))=_
     have hc:¬(c.toNat == 92)=true:=by
      intro h2;apply h;unfold grd;rw[h2];simp
     obtain⟨y,m,hm⟩:∃y m,body l++r=y::m:=List.exists_cons_of_ne_nil (by simp[hr])
     rw[hm,st,if_neg hc,←hm,ih];rfl
theorem bl_body (l:List UInt8):bl (body l++[34])=l:=by
 induction l with
 | nil=>rfl
 | cons c l ih=>
   unfold body one
   by_cases h:grd c=true
   · rw[if_pos h]
     show bl (92::c::(body l++[34]))=_
     rw[bl,if_pos (by decide),if_neg (by simp),ih]
   · rw[if_neg h]
     show bl (c::(body l++[34]))=_
     have hc:¬(c.toNat == 92)=true:=by
      intro h2;apply h;unfold grd;rw[h2];simp
     obtain⟨y,m,hm⟩:∃y m,body l++[34]=y::m:=List.exists_cons_of_ne_nil (by simp)
     rw[hm,bl,if_neg hc,←hm,ih]
theorem st_quoted (l:List UInt8):st ((quoted l).drop 1)=l:=by
 show st (body l++[34])=l
 rw[st_body l [34] (by simp)];simp[st]
theorem bl_quoted (l:List UInt8):bl ((quoted l).drop 1)=l:=bl_body l
theorem quoted_inj {l m:List UInt8}(h:quoted l=quoted m):l=m:=by
 rw[←st_quoted l,h,st_quoted]
theorem st_step (s:ByteArray)(k:Nat)(h:k+1<s.size):st (s.data.toList.drop k)=if s[k].toNat == 92 then s[k+1]::st (s.data.toList.drop (k+2))else s[k]::st (s.data.toList.drop (k+1)):=by
 have e1:s.data.toList.drop k=s[k]::s.data.toList.drop (k+1):=by
  rw[List.drop_eq_getElem_cons (by simp;omega)];rfl
 have e2:s.data.toList.drop (k+1)=s[k+1]::s.data.toList.drop (k+2):=by
  rw[List.drop_eq_getElem_cons (by simp;omega)];rfl
 rw[e1,e2,st]
theorem st_end (s:ByteArray)(k:Nat)(h:s.size≤k+1):st (s.data.toList.drop k)=[]:=by
 rcases Nat.lt_or_ge k s.size with hk | hk
 · have e1:s.data.toList.drop k=s[k]::s.data.toList.drop (k+1):=by
    rw[List.drop_eq_getElem_cons (by simpa using hk)];rfl
   rw[e1,List.drop_of_length_le (by simpa using h)];rfl
 · rw[List.drop_of_length_le (by simpa using hk)];rfl
theorem bl_step (s:ByteArray)(k:Nat)(h:k+2<s.size):bl (s.data.toList.drop k)=if s[k].toNat == 92 then s[k+1]::bl (s.data.toList.drop (k+2))else s[k]::bl (s.data.toList.drop (k+1)):=by
 have e1:s.data.toList.drop k=s[k]::s.data.toList.drop (k+1):=by
  rw[List.drop_eq_getElem_cons (by simp;omega)];rfl
 have e2:s.data.toList.drop (k+1)=s[k+1]::s.data.toList.drop (k+2):=by
  rw[List.drop_eq_getElem_cons (by simp;omega)];rfl
 have e3:(s.data.toList.drop (k+2)).isEmpty=false:=by
  have:(s.data.toList.drop (k+2)).length≠0:=by simp;omega
  cases hd:s.data.toList.drop (k+2)with
  | nil=>rw[hd]at this;simp at this
  | cons x y=>rfl
 rw[e1,e2,bl,e3];rfl
theorem bl_last (s:ByteArray)(k:Nat)(h:k+2=s.size):bl (s.data.toList.drop k)=if s[k].toNat == 92 then[]else s[k]::bl (s.data.toList.drop (k+1)):=by
 have e1:s.data.toList.drop k=s[k]::s.data.toList.drop (k+1):=by
  rw[List.drop_eq_getElem_cons (by simp;omega)];rfl
 have e2:s.data.toList.drop (k+1)=s[k+1]::s.data.toList.drop (k+2):=by
  rw[List.drop_eq_getElem_cons (by simp;omega)];rfl
 have e3:s.data.toList.drop (k+2)=[]:=List.drop_of_length_le (by simp;omega)
 rw[e1,e2,e3,bl];rfl
theorem bl_end (s:ByteArray)(k:Nat)(h:s.size≤k+1):bl (s.data.toList.drop k)=[]:=by
 rcases Nat.lt_or_ge k s.size with hk | hk
 · have e1:s.data.toList.drop k=s[k]::s.data.toList.drop (k+1):=by
    rw[List.drop_eq_getElem_cons (by simpa using hk)];rfl
   rw[e1,List.drop_of_length_le (by simpa using h)];rfl
 · rw[List.drop_of_length_le (by simpa using hk)];rfl
theorem bl_length:∀(n:Nat) (l:List UInt8),l.length≤n→(bl l).length≤l.length
 | _,[],_=>by simp[bl]
 | _,[_],_=>by simp[bl]
 | 0,_::_::_,h=>by simp at h
 | n+1,x::y::r,h=>by
   simp only[List.length_cons]at h
   have i1:=bl_length n r (by omega)
   have i2:=bl_length n (y::r) (by simp only[List.length_cons];omega)
   unfold bl
   split
   · split
     · simp
     · simp only[List.length_cons];omega
   · simp only[List.length_cons]at i2 ⊢; omega
theorem take_snoc (s:ByteArray)(k:Nat)(h:k<s.size):s.data.toList.take (k+1)=s.data.toList.take k++[s[k]]:=by
 rw[List.take_succ_eq_append_getElem (by simpa using h)];rfl
theorem take_all (s:ByteArray):s.data.toList.take s.size=s.data.toList:=List.take_of_length_le (by simp)
theorem all_take_bad (s:ByteArray)(k:Nat)(h:k<s.size)(hb:okb s[k]=false):s.data.toList.all okb=false:=by
 rw[List.all_eq_false]
 exact⟨s[k],by
  have:s[k]=s.data.toList[k]'(by simpa using h):=rfl
  rw[this];exact List.getElem_mem _,by simp[hb]⟩
def tfault (l:List UInt8):Int:=if l.length≤60 then(if l.all okb then 0 else 1)else 4
theorem tfault_long {l:List UInt8}(h:¬l.length≤60):tfault l=4:=if_neg h
theorem tfault_bad {l:List UInt8}(h:l.length≤60)(h2:l.all okb=false):tfault l=1:=by unfold tfault;rw[if_pos h,h2];rfl
theorem tfault_ok {l:List UInt8}(h:textOk l=true):tfault l=0:=by
 unfold textOk at h
 simp only[Bool.and_eq_true,decide_eq_true_eq]at h
 unfold tfault;rw[if_pos h.1,h.2];rfl
theorem tfault_not {l:List UInt8}(h:textOk l=false):tfault l≠0:=by
 unfold tfault
 unfold textOk at h
 by_cases h1:l.length≤60
 · rw[decide_eq_true h1,Bool.true_and]at h
   rw[if_pos h1,h];decide
 · rw[if_neg h1];decide
def ufault (t i:List UInt8):Int:=if nfault t=0 then tfault i else nfault t
theorem ufault_both {t i:List UInt8}(h:ufault t i=0):nfault t=0∧textOk i=true:=by
 unfold ufault at h
 by_cases h1:nfault t=0
 · rw[if_pos h1]at h
   refine⟨h1,?_⟩
   cases h2:textOk i
   · exact absurd h (tfault_not h2)
   · rfl
 · rw[if_neg h1]at h
   exact absurd h h1
theorem nfault_small {t:List UInt8}(h:nfault t=0):t.length≤20:=by
 unfold nfault at h
 by_cases h1:nm t=true
 · rw[if_pos h1]at h
   by_cases h2:20<t.length
   · rw[if_pos h2]at h;exact absurd h (by decide)
   · omega
 · rw[if_neg h1]at h;exact absurd h (by decide)
theorem ufault_small {t i:List UInt8}(h:ufault t i=0):t.length≤20∧i.length≤60:=by
 obtain⟨h1,h2⟩:=ufault_both h
 refine⟨nfault_small h1,?_⟩
 unfold textOk at h2
 rw[Bool.and_eq_true,decide_eq_true_eq]at h2
 exact h2.1
def namb (c:UInt8):Bool:=letb c || digb c
def wName (k:Int)(m:Nat)(l:List UInt8):Except Int (Int×List UInt8×Nat):=
 if nfault (l.takeWhile namb)=0 then .ok (k,l.takeWhile namb,m+(l.takeWhile namb).length)else .error (nfault (l.takeWhile namb))
def dig0:List UInt8→List UInt8
 | []=>[]
 | [c]=>[c]
 | c::d::r=>if c.toNat == 48 then dig0 (d::r)else c::d::r
def wNum (l:List UInt8):Except Int (Int×List UInt8×Nat):=
 if 19<(dig0 (l.takeWhile digb)).length then .error 4 else .ok (2,dig0 (l.takeWhile digb),(l.takeWhile digb).length)
def qsc:Bool→List UInt8→Option (List UInt8×Nat)
 | _,[]=>none
 | g,c::r=>if (c.toNat == 34 && !g)=true then some ([],0)
   else if (okb c && (!g || grd c))=true then(qsc (c.toNat == 92 && !g) r).map fun x=>(if (c.toNat == 92 && !g)=true then x.1 else c::x.1,x.2+1)
   else none
def wQuo (l:List UInt8):Except Int (Int×List UInt8×Nat):=
 match qsc false l with
 | none=>.error 1
 | some x=>if 60<x.1.length then .error 4 else .ok (3,x.1,x.2+2)
def two (l:List UInt8):Bool:=l == [58,58] || l == [61,61] || l == [60,61] || l == [38,38] || l == [124,124]
def shorts:List UInt8:=[40,41,91,93,123,125,44,58,46,60,33,43,45,42]
def wSign (l:List UInt8):Except Int (Int×List UInt8×Nat):=
 if two (l.take 2)=true then .ok (5,l.take 2,2)else if (l.take 1).any (fun c=>shorts.contains c)=true then .ok (5,l.take 1,1)else .error 1
def word1:List UInt8→Except Int (Int×List UInt8×Nat)
 | []=>.error 1
 | c::r=>if letb c=true then wName 1 0 (c::r)else if digb c=true then wNum (c::r)else if (c.toNat == 34)=true then wQuo r else if (c.toNat == 63)=true then wName 4 1 r else wSign (c::r)
theorem word1_cons (c:UInt8)(r:List UInt8):word1 (c::r)=if letb c=true then wName 1 0 (c::r)else if digb c=true then wNum (c::r)else if (c.toNat == 34)=true then wQuo r else if (c.toNat == 63)=true then wName 4 1 r else wSign (c::r):=rfl
structure Tk where
 kind:Int
 s:ByteArray
 at_:Int
def mkT (k:Int)(l:List UInt8)(a:Nat):Tk:=⟨k,⟨l.toArray⟩,a⟩
def wds (l:List UInt8)(acc:List Tk)(a:Nat):Except (Int×Nat) (List Tk):=
 match l with
 | []=>.ok acc
 | c::r=>
   if (c.toNat == 32)=true then wds r acc (a+1)
   else match word1 (c::r)with
    | .error e=>.error (e,a)
    | .ok x=>if 300≤acc.length then .error (4,a)else wds (r.drop (x.2.2-1)) (acc++[mkT x.1 x.2.1 a]) (a+x.2.2)
 termination_by l.length
 decreasing_by all_goals (simp;try omega)
def readL (l:List UInt8):Except (Int×Nat) (List Tk):=if 900<l.length then .error (4,0)else wds l [] 0
theorem wds_nil (acc:List Tk)(a:Nat):wds [] acc a= .ok acc:=by rw[wds]
theorem wds_blank {c:UInt8}(h:(c.toNat == 32)=true)(r:List UInt8)(acc:List Tk)(a:Nat):wds (c::r) acc a=wds r acc (a+1):=by
 rw[wds];simp only[h,if_true]
theorem wds_bad {c:UInt8}(h:(c.toNat == 32)=false){r:List UInt8}{e:Int}(hw:word1 (c::r)= .error e)(acc:List Tk)(a:Nat):wds (c::r) acc a= .error (e,a):=by
 rw[wds];simp only[h,hw];rfl
theorem wds_full {c:UInt8}(h:(c.toNat == 32)=false){r:List UInt8}{x:Int×List UInt8×Nat}(hw:word1 (c::r)= .ok x){acc:List Tk}(ha:300≤acc.length)(a:Nat):wds (c::r) acc a= .error (4,a):=by
 rw[wds];simp only[h,hw,if_pos ha];rfl
theorem wds_word {c:UInt8}(h:(c.toNat == 32)=false){r:List UInt8}{x:Int×List UInt8×Nat}(hw:word1 (c::r)= .ok x){acc:List Tk}(ha:¬ 300≤acc.length)(a:Nat):wds (c::r) acc a=wds (r.drop (x.2.2-1)) (acc++[mkT x.1 x.2.1 a]) (a+x.2.2):=by
 rw[wds];simp only[h,hw,if_neg ha];rfl
def runL (p:UInt8→Bool)(l:List UInt8):Nat:=(l.takeWhile p).length
theorem runL_le (p:UInt8→Bool)(l:List UInt8):runL p l≤l.length:=by
 induction l with
 | nil=>simp[runL]
 | cons c r ih=>
   unfold runL at *
   by_cases h:p c=true
   · simp[h];omega
   · simp[h]
theorem runL_take (p:UInt8→Bool)(l:List UInt8):l.take (runL p l)=l.takeWhile p:=by
 induction l with
 | nil=>simp[runL]
 | cons c r ih=>
   unfold runL at *
   by_cases h:p c=true
   · simp[h];exact ih
   · simp[h]
def blankb (c:UInt8):Bool:=c.toNat == 32
theorem wds_run (l:List UInt8)(acc:List Tk)(a:Nat):wds l acc a=wds (l.drop (runL blankb l)) acc (a+runL blankb l):=by
 induction l generalizing a with
 | nil=>rfl
 | cons c r ih=>
   by_cases h:(c.toNat == 32)=true
   · rw[wds_blank h,ih (a+1)]
     have e:runL blankb (c::r)=runL blankb r+1:=by
      unfold runL;rw[List.takeWhile_cons,if_pos (by exact h)];rfl
     rw[e,List.drop_succ_cons,show a+1+runL blankb r=a+(runL blankb r+1) by omega]
   · have e:runL blankb (c::r)=0:=by unfold runL;rw[List.takeWhile_cons,if_neg (by exact h)];rfl
     rw[e];rfl
theorem run_next (l:List UInt8):∀c r,l.drop (runL blankb l)=c::r→(c.toNat == 32)=false:=by
 induction l with
 | nil=>intro c r h;simp[runL]at h
 | cons d m ih=>
   intro c r h
   by_cases hd:(d.toNat == 32)=true
   · have e:runL blankb (d::m)=runL blankb m+1:=by
      unfold runL;rw[List.takeWhile_cons,if_pos (by exact hd)];rfl
     rw[e,List.drop_succ_cons]at h
     exact ih c r h
   · have e:runL blankb (d::m)=0:=by unfold runL;rw[List.takeWhile_cons,if_neg (by exact hd)];rfl
     rw[e]at h
     simp only[List.drop_zero,List.cons.injEq]at h
     rw[←h.1];simpa using hd
theorem takeWhile_sep (p:UInt8→Bool)(h:p 32=false)(l m:List UInt8):(l++32::m).takeWhile p=l.takeWhile p:=by
 induction l with
 | nil=>simp[h]
 | cons c r ih=>
   rw[List.cons_append,List.takeWhile_cons,List.takeWhile_cons,ih]
theorem takeWhile_le (p:UInt8→Bool)(l:List UInt8):(l.takeWhile p).length≤l.length:=runL_le p l
theorem takeWhile_all (p:UInt8→Bool)(l:List UInt8):(l.takeWhile p).all p=true:=by
 induction l with
 | nil=>rfl
 | cons c r ih=>
   rw[List.takeWhile_cons]
   split
   · rename_i h;rw[List.all_cons,h,ih];rfl
   · rfl
theorem takeWhile_id (p:UInt8→Bool)(l:List UInt8)(h:l.all p=true):l.takeWhile p=l:=by
 induction l with
 | nil=>rfl
 | cons c r ih=>
   rw[List.all_cons,Bool.and_eq_true]at h
   rw[List.takeWhile_cons,if_pos h.1,ih h.2]
theorem qsc_append (z:List UInt8):∀(l:List UInt8) (g:Bool) (x:List UInt8×Nat),qsc g l=some x→qsc g (l++z)=some x
 | [],g,x,h=>by simp[qsc]at h
 | c::r,g,x,h=>by
   rw[List.cons_append]
   unfold qsc at h ⊢
   split at h
   · rename_i h1;rw[if_pos h1];exact h
   · rename_i h1
     rw[if_neg h1]
     split at h
     · rename_i h2
       rw[if_pos h2]
       rw[Option.map_eq_some_iff]at h ⊢
       obtain⟨y,hy,e⟩:=h
       exact⟨y,qsc_append z r _ y hy,e⟩
     · cases h
theorem qsc_len:∀(l:List UInt8) (g:Bool) (x:List UInt8×Nat),qsc g l=some x→x.2+1≤l.length∧x.1.length≤x.2
 | [],g,x,h=>by simp[qsc]at h
 | c::r,g,x,h=>by
   unfold qsc at h
   split at h
   · cases h;simp
   · split at h
     · rw[Option.map_eq_some_iff]at h
       obtain⟨y,hy,e⟩:=h
       have ih:=qsc_len r _ y hy
       subst e
       simp only[List.length_cons]
       split
       · omega
       · simp only[List.length_cons];omega
     · cases h
theorem qsc_ok:∀(l:List UInt8) (g:Bool) (x:List UInt8×Nat),qsc g l=some x→x.1.all okb=true
 | [],g,x,h=>by simp[qsc]at h
 | c::r,g,x,h=>by
   unfold qsc at h
   split at h
   · cases h;rfl
   · split at h
     · rename_i h2
       rw[Option.map_eq_some_iff]at h
       obtain⟨y,hy,e⟩:=h
       have ih:=qsc_ok r _ y hy
       subst e
       simp only[]
       split
       · exact ih
       · rw[Bool.and_eq_true]at h2
         rw[List.all_cons,h2.1,ih];rfl
     · cases h
theorem grd_ok {c:UInt8}(h:grd c=true):okb c=true:=by
 unfold grd at h;unfold okb
 simp only[Bool.or_eq_true,beq_iff_eq]at h
 simp only[Bool.and_eq_true,decide_eq_true_eq]
 omega
theorem qsc_body (z:List UInt8):∀(t:List UInt8),t.all okb=true→qsc false (body t++34::z)=some (t,(body t).length)
 | [],_=>by simp[body,qsc]
 | c::r,h=>by
   rw[List.all_cons,Bool.and_eq_true]at h
   have ih:=qsc_body z r h.2
   unfold body one
   by_cases hg:grd c=true
   · rw[if_pos hg]
     show qsc false (92::c::(body r++34::z))=_
     unfold qsc
     rw[if_neg (by decide),if_pos (by decide)]
     unfold qsc
     rw[show((92:UInt8).toNat == 92 && !false)=true by decide]
     rw[if_neg (by simp),if_pos (by rw[grd_ok hg,hg];rfl)]
     rw[show(c.toNat == 92 && !true)=false by simp,ih]
     simp
   · rw[if_neg hg]
     show qsc false (c::(body r++34::z))=_
     have g1:(c.toNat == 34)=false:=by
      cases e:(c.toNat == 34)with
      | false=>rfl
      | true=>exact absurd (by unfold grd;rw[e];rfl) hg
     have g2:(c.toNat == 92)=false:=by
      cases e:(c.toNat == 92)with
      | false=>rfl
      | true=>exact absurd (by unfold grd;rw[e];simp) hg
     unfold qsc
     rw[g1,g2,if_neg (by simp),if_pos (by rw[h.1];rfl)]
     simp only[Bool.false_and]
     rw[ih]
     simp
theorem two_len {l:List UInt8}(h:two (l.take 2)=true):2≤l.length:=by
 cases l with
 | nil=>exact absurd h (by decide)
 | cons c r=>
   cases r with
   | nil=>
     have:two [c]=false:=by unfold two;simp
     simp only[List.take_succ_cons,List.take_nil]at h
     rw[this]at h;cases h
   | cons d m=>simp
theorem two_sep (c:UInt8):two [c,32]=false:=by
 unfold two
 simp only[List.cons_beq_cons,Bool.or_eq_false_iff,Bool.and_eq_false_iff]
 have:((32:UInt8) == 58)=false∧((32:UInt8) == 61)=false∧((32:UInt8) == 38)=false∧((32:UInt8) == 124)=false:=by decide
 simp[this]
theorem wSign_sep (c:UInt8)(r m:List UInt8){x:Int×List UInt8×Nat}(h:wSign (c::r)= .ok x):wSign (c::r++32::m)= .ok x:=by
 cases r with
 | nil=>
   have e1:two ([c].take 2)=false:=by
    cases e:two ([c].take 2)with
    | false=>rfl
    | true=>have:=two_len e;simp at this
   have e2:two (([c]++32::m).take 2)=false:=two_sep c
   unfold wSign at h ⊢
   rw[e1]at h
   rw[e2]
   exact h
 | cons d q=>exact h
theorem word1_sep {l:List UInt8}{x:Int×List UInt8×Nat}(m:List UInt8)(h:word1 l= .ok x):word1 (l++32::m)= .ok x:=by
 have n32:namb 32=false:=by decide
 have d32:digb 32=false:=by decide
 cases l with
 | nil=>simp[word1]at h
 | cons c r=>
   rw[List.cons_append]
   rw[word1_cons]at h ⊢
   split at h
   · rename_i h1
     rw[if_pos h1]
     unfold wName at h ⊢
     rw[←List.cons_append,takeWhile_sep _ n32]
     exact h
   · rename_i h1
     rw[if_neg h1]
     split at h
     · rename_i h2
       rw[if_pos h2]
       unfold wNum at h ⊢
       rw[←List.cons_append,takeWhile_sep _ d32]
       exact h
     · rename_i h2
       rw[if_neg h2]
       split at h
       · rename_i h3
         rw[if_pos h3]
         unfold wQuo at h ⊢
         cases e:qsc false r with
         | none=>rw[e]at h;cases h
         | some y=>rw[e]at h;rw[qsc_append _ _ _ _ e];exact h
       · rename_i h3
         rw[if_neg h3]
         split at h
         · rename_i h4
           rw[if_pos h4]
           unfold wName at h ⊢
           rw[takeWhile_sep _ n32]
           exact h
         · rename_i h4
           rw[if_neg h4]
           exact wSign_sep c r m h
theorem nfault_pos {l:List UInt8}(h:nfault l=0):1≤l.length:=by
 unfold nfault at h
 split at h
 · rename_i h1
   unfold nm at h1
   cases l with
   | nil=>simp at h1
   | cons c r=>simp
 · cases h
theorem word1_size {l:List UInt8}{x:Int×List UInt8×Nat}(h:word1 l= .ok x):1≤x.2.2∧x.2.2≤l.length:=by
 cases l with
 | nil=>simp[word1]at h
 | cons c r=>
   rw[word1_cons]at h
   split at h
   · unfold wName at h
     split at h
     · rename_i h1
       have:=nfault_pos h1
       have:=takeWhile_le namb (c::r)
       cases h;simp only;omega
     · cases h
   · split at h
     · rename_i h2
       unfold wNum at h
       split at h
       · cases h
       · have:=takeWhile_le digb (c::r)
         cases h
         refine⟨?_,this⟩
         rw[List.takeWhile_cons,if_pos h2];simp
     · split at h
       · unfold wQuo at h
         cases e:qsc false r with
         | none=>rw[e]at h;cases h
         | some y=>
           rw[e]at h
           have:=qsc_len _ _ _ e
           simp only at h
           split at h
           · cases h
           · cases h;simp only[List.length_cons];omega
       · split at h
         · unfold wName at h
           split at h
           · rename_i h1
             have:=takeWhile_le namb r
             cases h;simp only[List.length_cons];omega
           · cases h
         · unfold wSign at h
           split at h
           · rename_i h1
             have:=two_len h1
             cases h;exact⟨by simp,this⟩
           · split at h
             · cases h;simp
             · cases h
theorem wds_sep (m:List UInt8):∀(n:Nat) (l:List UInt8) (acc:List Tk) (a:Nat) (xs:List Tk),l.length≤n→wds l acc a= .ok xs→wds (l++32::m) acc a=wds m xs (a+l.length+1)
 | _,[],acc,a,xs,_,h=>by
   rw[wds_nil]at h
   cases h
   rw[List.nil_append,wds_blank (by decide)];rfl
 | 0,c::r,_,_,_,hn,_=>by simp at hn
 | n+1,c::r,acc,a,xs,hn,h=>by
   simp only[List.length_cons]at hn
   by_cases hb:(c.toNat == 32)=true
   · rw[wds_blank hb]at h
     rw[List.cons_append,wds_blank hb,wds_sep m n r acc (a+1) xs (by omega) h]
     rw[List.length_cons,show a+1+r.length+1=a+(r.length+1)+1 by omega]
   · have hb':(c.toNat == 32)=false:=by simpa using hb
     cases hw:word1 (c::r)with
     | error e=>rw[wds_bad hb' hw]at h;cases h
     | ok x=>
       by_cases ha:300≤acc.length
       · rw[wds_full hb' hw ha]at h;cases h
       · rw[wds_word hb' hw ha]at h
         obtain⟨s1,s2⟩:=word1_size hw
         simp only[List.length_cons]at s2
         have hw':=word1_sep m hw
         rw[List.cons_append]at hw' ⊢
         rw[wds_word hb' hw' ha]
         have e:(r++32::m).drop (x.2.2-1)=r.drop (x.2.2-1)++32::m:=by
          rw[List.drop_append_of_le_length (by omega)]
         rw[e,wds_sep m n _ _ _ xs (by simp;omega) h]
         rw[List.length_drop,List.length_cons,show a+x.2.2+(r.length-(x.2.2-1))+1=a+(r.length+1)+1 by omega]
def sh (d:Nat)(t:Tk):Tk:=⟨t.kind,t.s,t.at_+d⟩
theorem wds_move:∀(n:Nat) (l:List UInt8) (acc:List Tk) (a:Nat) (xs:List Tk),l.length≤n→wds l acc a= .ok xs→
 ∃ys,xs=acc++ys∧acc.length+ys.length≤max acc.length 300∧(∀y∈ys,(a:Int)≤y.at_)∧∀(acc':List Tk) (d:Nat),acc'.length+ys.length≤300→wds l acc' (a+d)= .ok (acc'++ys.map (sh d))
 | _,[],acc,a,xs,_,h=>by
   rw[wds_nil]at h
   cases h
   exact⟨[],by simp,by simp;omega,by simp,fun acc' d _=>by rw[wds_nil];simp⟩
 | 0,c::r,_,_,_,hn,_=>by simp at hn
 | n+1,c::r,acc,a,xs,hn,h=>by
   simp only[List.length_cons]at hn
   by_cases hb:(c.toNat == 32)=true
   · rw[wds_blank hb]at h
     obtain⟨ys,e,hl,hp,hm⟩:=wds_move n r acc (a+1) xs (by omega) h
     refine⟨ys,e,hl,fun y hy=>?_,fun acc' d hd=>?_⟩
     · have:=hp y hy;omega
     · rw[wds_blank hb,show a+d+1=a+1+d by omega];exact hm acc' d hd
   · have hb':(c.toNat == 32)=false:=by simpa using hb
     cases hw:word1 (c::r)with
     | error e=>rw[wds_bad hb' hw]at h;cases h
     | ok x=>
       by_cases ha:300≤acc.length
       · rw[wds_full hb' hw ha]at h;cases h
       · rw[wds_word hb' hw ha]at h
         obtain⟨ys,e,hl,hp,hm⟩:=wds_move n _ _ _ xs (by simp;omega) h
         refine⟨mkT x.1 x.2.1 a::ys,by rw[e];simp,by simp only[List.length_append,List.length_cons,List.length_nil]at hl ⊢; omega,fun y hy=>?_,fun acc' d hd=>?_⟩
         · rcases List.mem_cons.1 hy with rfl | hy
           · simp[mkT]
           · have:=hp y hy;omega
         · simp only[List.length_cons]at hd
           rw[wds_word hb' hw (by omega),show a+d+x.2.2=a+x.2.2+d by omega,hm _ d (by simp;omega)]
           simp[sh,mkT]
theorem wds_count {l:List UInt8}{xs:List Tk}(h:wds l [] 0= .ok xs):xs.length≤300:=by
 obtain⟨ys,e,hl,_⟩:=wds_move _ l [] 0 xs (Nat.le_refl _) h
 rw[e];simpa using hl
theorem joins {l m:List UInt8}{xs ys:List Tk}(h:wds l [] 0= .ok xs)(k:wds m [] 0= .ok ys)(hc:xs.length+ys.length≤300):
 wds (l++32::m) [] 0= .ok (xs++ys.map (sh (l.length+1))):=by
 obtain⟨zs,e,_,_,hm⟩:=wds_move _ m [] 0 ys (Nat.le_refl _) k
 rw[wds_sep m _ l [] 0 xs (Nat.le_refl _) h]
 rw[List.nil_append]at e
 subst e
 have:=hm xs (l.length+1) hc
 rw[show 0+l.length+1=0+(l.length+1) by omega]
 exact this
def wtn (t:Tk):List UInt8:=if t.kind=4 then 63::t.s.data.toList else if t.kind=3 then(if textOk t.s.data.toList=true then quoted t.s.data.toList else[])else t.s.data.toList
def at0 (t:Tk):Tk:=⟨t.kind,t.s,0⟩
def whole (k:Int)(l:List UInt8):Bool:=
 match word1 l with
 | .ok x=>x.2.2 == l.length && x.1 == k && x.2.1 == l
 | .error _=>false
def spB (t:Tk):Bool:=
 if t.kind=3 then textOk t.s.data.toList else if t.kind=4 then nfault t.s.data.toList == 0
 else match t.s.data.toList with
  | []=>false
  | c::r=> !(c.toNat == 32 || c.toNat == 34 || c.toNat == 63) && whole t.kind (c::r)
theorem word1_inv {l:List UInt8}{k:Int}{t:List UInt8}{n:Nat}(h:word1 l= .ok (k,t,n)):
 (k=1∧t=l.takeWhile namb∧nfault t=0∧n=t.length)∨
 (k=2∧t=dig0 (l.takeWhile digb)∧t.length≤19∧n=(l.takeWhile digb).length∧l.takeWhile digb≠[])∨
 (k=3∧t.all okb=true∧t.length≤60∧∃c r,l=c::r∧(c.toNat == 34)=true)∨
 (k=4∧nfault t=0∧∃c r,l=c::r∧(c.toNat == 63)=true∧t=r.takeWhile namb)∨
 (k=5∧((two t=true∧t=l.take 2∧n=2)∨(t.any (fun c=>shorts.contains c)=true∧t=l.take 1∧n=1∧l≠[]))):=by
 cases l with
 | nil=>simp[word1]at h
 | cons c r=>
   rw[word1_cons]at h
   split at h
   · unfold wName at h
     split at h
     · rename_i h1
       cases h
       exact .inl ⟨rfl,rfl,h1,by simp⟩
     · cases h
   · split at h
     · rename_i h2
       unfold wNum at h
       split at h
       · cases h
       · cases h
         refine .inr (.inl ⟨rfl,rfl,by omega,rfl,?_⟩)
         rw[List.takeWhile_cons,if_pos h2];simp
     · split at h
       · rename_i h3
         unfold wQuo at h
         cases e:qsc false r with
         | none=>rw[e]at h;cases h
         | some y=>
           rw[e]at h
           have:=qsc_ok _ _ _ e
           simp only at h
           split at h
           · cases h
           · cases h;exact .inr (.inr (.inl ⟨rfl,this,by omega,c,r,rfl,h3⟩))
       · split at h
         · rename_i h4
           unfold wName at h
           split at h
           · rename_i h1
             cases h
             exact .inr (.inr (.inr (.inl ⟨rfl,h1,c,r,rfl,h4,rfl⟩)))
           · cases h
         · unfold wSign at h
           split at h
           · rename_i h1
             cases h
             exact .inr (.inr (.inr (.inr ⟨rfl,.inl ⟨h1,rfl,rfl⟩⟩)))
           · split at h
             · rename_i h1
               cases h
               exact .inr (.inr (.inr (.inr ⟨rfl,.inr ⟨h1,rfl,rfl,by simp⟩⟩)))
             · cases h
theorem dig0_le:∀l:List UInt8,(dig0 l).length≤l.length
 | []=>by simp[dig0]
 | [c]=>by simp[dig0]
 | c::d::r=>by
   have:=dig0_le (d::r)
   unfold dig0
   split
   · simp only[List.length_cons]at this ⊢; omega
   · simp
theorem dig0_all (p:UInt8→Bool):∀l:List UInt8,l.all p=true→(dig0 l).all p=true
 | [],_=>by simp[dig0]
 | [c],h=>by simpa[dig0]using h
 | c::d::r,h=>by
   have ih:=dig0_all p (d::r)
   unfold dig0
   split
   · apply ih;rw[List.all_cons,Bool.and_eq_true]at h;exact h.2
   · exact h
theorem dig0_ne:∀l:List UInt8,l≠[]→dig0 l≠[]
 | [],h=>absurd rfl h
 | [c],_=>by simp[dig0]
 | c::d::r,_=>by
   have ih:=dig0_ne (d::r) (by simp)
   unfold dig0
   split
   · exact ih
   · simp
theorem dig0_twice:∀l:List UInt8,dig0 (dig0 l)=dig0 l
 | []=>by simp[dig0]
 | [c]=>by simp[dig0]
 | c::d::r=>by
   have ih:=dig0_twice (d::r)
   by_cases h:(c.toNat == 48)=true
   · have e:dig0 (c::d::r)=dig0 (d::r):=by rw[dig0,if_pos h]
     rw[e,ih]
   · have e:dig0 (c::d::r)=c::d::r:=by rw[dig0,if_neg h]
     rw[e,e]
theorem name_all {t:List UInt8}(h:nfault t=0):t.all namb=true∧t.length≤20∧∃c r,t=c::r∧letb c=true:=by
 have hs:=nfault_small h
 unfold nfault at h
 split at h
 · rename_i h1
   unfold nm at h1
   rw[Bool.and_eq_true]at h1
   cases t with
   | nil=>simp at h1
   | cons c r=>
     have hp:=h1.1
     unfold pre at hp
     rw[Bool.and_eq_true]at hp
     refine⟨?_,hs,c,r,rfl,hp.1⟩
     rw[List.all_cons]
     have:namb c=true:=by unfold namb;rw[hp.1];rfl
     rw[this,Bool.true_and]
     exact hp.2
 · cases h
theorem let_not {c:UInt8}(h:letb c=true):(c.toNat == 32 || c.toNat == 34 || c.toNat == 63)=false:=by
 unfold letb at h
 simp only[Bool.or_eq_true,Bool.and_eq_true,decide_eq_true_eq,beq_iff_eq]at h
 simp only[Bool.or_eq_false_iff,beq_eq_false_iff_ne]
 omega
theorem dig_not {c:UInt8}(h:digb c=true):(c.toNat == 32 || c.toNat == 34 || c.toNat == 63)=false:=by
 unfold digb at h
 simp only[Bool.and_eq_true,decide_eq_true_eq]at h
 simp only[Bool.or_eq_false_iff,beq_eq_false_iff_ne]
 omega
theorem dig_let {c:UInt8}(h:digb c=true):letb c=false:=by
 unfold digb at h
 simp only[Bool.and_eq_true,decide_eq_true_eq]at h
 cases e:letb c with
 | false=>rfl
 | true=>
   unfold letb at e
   simp only[Bool.or_eq_true,Bool.and_eq_true,decide_eq_true_eq,beq_iff_eq]at e
   omega
theorem whole_of {k:Int}{l:List UInt8}(h:word1 l= .ok (k,l,l.length)):whole k l=true:=by
 unfold whole;rw[h];simp
theorem whole_to {k:Int}{l:List UInt8}(h:whole k l=true):word1 l= .ok (k,l,l.length):=by
 unfold whole at h
 cases e:word1 l with
 | error n=>rw[e]at h;cases h
 | ok x=>
   rw[e]at h
   obtain⟨a,b,c⟩:=x
   simp only[Bool.and_eq_true,beq_iff_eq]at h
   rw[h.1.1,h.1.2,h.2]
theorem word_name {t:List UInt8}(h:nfault t=0):word1 t= .ok (1,t,t.length):=by
 obtain⟨h1,_,c,r,e,h2⟩:=name_all h
 have:word1 t=wName 1 0 t:=by rw[e,word1_cons,if_pos h2]
 rw[this]
 unfold wName
 rw[takeWhile_id _ _ h1,if_pos h]
 simp
theorem word_num {f:List UInt8}(h:f.all digb=true)(hne:f≠[])(hl:(dig0 f).length≤19):word1 (dig0 f)= .ok (2,dig0 f,(dig0 f).length):=by
 have ha:=dig0_all digb f h
 have hn:=dig0_ne f hne
 obtain⟨c,r,e⟩:=List.exists_cons_of_ne_nil hn
 have hc:digb c=true:=by rw[e,List.all_cons,Bool.and_eq_true]at ha;exact ha.1
 have:word1 (dig0 f)=wNum (dig0 f):=by rw[e,word1_cons,if_neg (by rw[dig_let hc];decide),if_pos hc]
 rw[this]
 unfold wNum
 rw[takeWhile_id _ _ ha,dig0_twice,if_neg (by omega)]
theorem word_quo {t:List UInt8}(h:textOk t=true):word1 (quoted t)= .ok (3,t,(quoted t).length):=by
 unfold textOk at h
 rw[Bool.and_eq_true,decide_eq_true_eq]at h
 have e:quoted t=34::(body t++34::[]):=rfl
 rw[e,word1_cons,if_neg (by decide),if_neg (by decide),if_pos (by decide)]
 unfold wQuo
 rw[qsc_body [] t h.2]
 simp only
 rw[if_neg (by omega)]
 simp
theorem word_slot {t:List UInt8}(h:nfault t=0):word1 (63::t)= .ok (4,t,(63::t).length):=by
 obtain⟨h1,_⟩:=name_all h
 rw[word1_cons,if_neg (by decide),if_neg (by decide),if_neg (by decide),if_pos (by decide)]
 unfold wName
 rw[takeWhile_id _ _ h1,if_pos h]
 simp;omega
theorem mkT_data (k:Int)(l:List UInt8)(a:Nat):(mkT k l a).s.data.toList=l:=rfl
theorem mkT_kind (k:Int)(l:List UInt8)(a:Nat):(mkT k l a).kind=k:=rfl
theorem tk_eta (t:Tk):mkT t.kind t.s.data.toList 0=at0 t:=rfl
theorem two_cases {t:List UInt8}(h:two t=true):t=[58,58]∨t=[61,61]∨t=[60,61]∨t=[38,38]∨t=[124,124]:=by
 unfold two at h
 simp only[Bool.or_eq_true,beq_iff_eq]at h
 rcases h with(((h | h) | h) | h) | h
 · exact .inl h
 · exact .inr (.inl h)
 · exact .inr (.inr (.inl h))
 · exact .inr (.inr (.inr (.inl h)))
 · exact .inr (.inr (.inr (.inr h)))
theorem word1_spB {l:List UInt8}{k:Int}{t:List UInt8}{n:Nat}(a:Nat)(h:word1 l= .ok (k,t,n)):spB (mkT k t a)=true:=by
 unfold spB
 rw[mkT_kind,mkT_data]
 rcases word1_inv h with⟨rfl,_,h2,_⟩ | ⟨rfl,h1,h2,_,h4⟩ | ⟨rfl,h1,h2,_⟩ | ⟨rfl,h1,_⟩ | ⟨rfl,h1⟩
 · obtain⟨_,_,c,r,e,hc⟩:=name_all h2
   have hw:=whole_of (word_name h2)
   rw[if_neg (by decide),if_neg (by decide)]
   subst e
   simp only[let_not hc,hw];rfl
 · have hall:=takeWhile_all digb l
   rw[h1]at h2
   have hw:=whole_of (word_num hall h4 h2)
   rw[if_neg (by decide),if_neg (by decide)]
   rw[←h1]at hw
   have hda:=dig0_all digb _ hall
   rw[←h1]at hda
   have hn:=dig0_ne _ h4
   rw[←h1]at hn
   obtain⟨c,r,e⟩:=List.exists_cons_of_ne_nil hn
   subst e
   rw[List.all_cons,Bool.and_eq_true]at hda
   simp only[dig_not hda.1,hw];rfl
 · rw[if_pos rfl]
   unfold textOk;rw[h1,decide_eq_true h2];rfl
 · rw[if_neg (by decide),if_pos rfl,h1];rfl
 · rw[if_neg (by decide),if_neg (by decide)]
   rcases h1 with⟨h1,_⟩ | ⟨h1,h2,_,h3⟩
   · rcases two_cases h1 with rfl | rfl | rfl | rfl | rfl<;>rfl
   · obtain⟨c,r,e⟩:=List.exists_cons_of_ne_nil h3
     have et:t=[c]:=by rw[h2,e];rfl
     subst et
     have hc:shorts.contains c=true:=by simpa using h1
     unfold shorts at hc
     simp only[List.contains_cons,List.contains_nil,Bool.or_false,Bool.or_eq_true,beq_iff_eq]at hc
     rcases hc with rfl | rfl | rfl | rfl | rfl | rfl | rfl | rfl | rfl | rfl | rfl | rfl | rfl | rfl<;>rfl
theorem word1_small {l:List UInt8}{k:Int}{t:List UInt8}{n:Nat}(h:word1 l= .ok (k,t,n)):t.length≤60:=by
 rcases word1_inv h with⟨_,_,h2,_⟩ | ⟨_,h1,h2,_⟩ | ⟨_,_,h2,_⟩ | ⟨_,h1,_⟩ | ⟨_,h1⟩
 · have:=(name_all h2).2.1;omega
 · omega
 · exact h2
 · have:=(name_all h1).2.1;omega
 · rcases h1 with⟨_,h1,_⟩ | ⟨_,h1,_⟩
   · rw[h1,List.length_take];omega
   · rw[h1,List.length_take];omega
theorem read_one {c:UInt8}{r:List UInt8}{k:Int}{t:List UInt8}(hc:(c.toNat == 32)=false)(h:word1 (c::r)= .ok (k,t,(c::r).length))(hl:(c::r).length≤900):readL (c::r)= .ok [mkT k t 0]:=by
 unfold readL
 rw[if_neg (by omega),wds_word hc h (by simp)]
 simp only
 rw[List.drop_of_length_le (by simp),wds_nil]
 rfl
theorem read_first {u:List UInt8}{x:Tk}(h:readL u= .ok [x])(hx:x.at_=0):∃c r n,u=c::r∧(c.toNat == 32)=false∧word1 u= .ok (x.kind,x.s.data.toList,n):=by
 unfold readL at h
 split at h
 · cases h
 · cases u with
   | nil=>rw[wds_nil]at h;cases h
   | cons c r=>
     by_cases hb:(c.toNat == 32)=true
     · rw[wds_blank hb]at h
       obtain⟨ys,e,_,hp,_⟩:=wds_move _ r [] 1 [x] (Nat.le_refl _) h
       rw[List.nil_append]at e
       have:=hp x (by rw[←e];simp)
       omega
     · have hb':(c.toNat == 32)=false:=by simpa using hb
       cases hw:word1 (c::r)with
       | error e=>rw[wds_bad hb' hw]at h;cases h
       | ok y=>
         rw[wds_word hb' hw (by simp)]at h
         obtain⟨ys,e,_⟩:=wds_move _ _ _ _ _ (Nat.le_refl _) h
         simp only[List.nil_append,List.cons_append,List.cons.injEq]at e
         obtain⟨k,t,n⟩:=y
         exact⟨c,r,n,rfl,hb',by rw[e.1];rfl⟩
theorem wr_slot {t:Tk}(h:t.kind=4):wtn t=63::t.s.data.toList:=if_pos h
theorem wr_quo {t:Tk}(h:t.kind=3):wtn t=if textOk t.s.data.toList=true then quoted t.s.data.toList else[]:=by
 unfold wtn;rw[if_neg (by rw[h];decide),if_pos h]
theorem wr_else {t:Tk}(h3:t.kind≠3)(h4:t.kind≠4):wtn t=t.s.data.toList:=by
 unfold wtn;rw[if_neg h4,if_neg h3]
theorem spB_quo {t:Tk}(h:t.kind=3):spB t=textOk t.s.data.toList:=if_pos h
theorem spB_slot {t:Tk}(h:t.kind=4):spB t=(nfault t.s.data.toList == 0):=by
 unfold spB;rw[if_neg (by rw[h];decide),if_pos h]
theorem spB_read {t:Tk}(h:spB t=true):readL (wtn t)= .ok [at0 t]:=by
 by_cases h3:t.kind=3
 · rw[spB_quo h3]at h
   rw[wr_quo h3,if_pos h]
   have hw:=word_quo h
   have e:quoted t.s.data.toList=34::(body t.s.data.toList++[34]):=rfl
   have hl:=body_length t.s.data.toList
   unfold textOk at h
   rw[Bool.and_eq_true,decide_eq_true_eq]at h
   rw[e]at hw ⊢
   rw[read_one (by decide) hw (by simp;omega),←tk_eta,h3]
 · by_cases h4:t.kind=4
   · rw[spB_slot h4]at h
     have hn:nfault t.s.data.toList=0:=by simpa using h
     have:=(name_all hn).2.1
     rw[wr_slot h4,read_one (by decide) (word_slot hn) (by simp only[List.length_cons];omega),←tk_eta,h4]
   · rw[wr_else h3 h4]
     unfold spB at h
     rw[if_neg h3,if_neg h4]at h
     cases e:t.s.data.toList with
     | nil=>rw[e]at h;cases h
     | cons c r=>
       rw[e]at h
       simp only[Bool.and_eq_true,Bool.not_eq_true',Bool.or_eq_false_iff]at h
       have hw:=whole_to h.2
       have hl:=word1_small hw
       rw[read_one h.1.1.1 hw (by omega),←tk_eta,e]
theorem read_spB {t:Tk}(h:readL (wtn t)= .ok [at0 t]):spB t=true:=by
 obtain⟨c,r,n,e,hc,hw⟩:=read_first h rfl
 have hw:word1 (wtn t)= .ok (t.kind,t.s.data.toList,n):=hw
 by_cases h3:t.kind=3
 · rw[spB_quo h3]
   rw[wr_quo h3]at e
   split at e
   · assumption
   · cases e
 · by_cases h4:t.kind=4
   · rw[spB_slot h4]
     rw[wr_slot h4]at hw
     rcases word1_inv hw with⟨h1,_⟩ | ⟨h1,_⟩ | ⟨h1,_⟩ | ⟨_,h1,_⟩ | ⟨h1,_⟩
     · omega
     · omega
     · omega
     · rw[h1];rfl
     · omega
   · rw[wr_else h3 h4]at e hw
     unfold spB
     rw[if_neg h3,if_neg h4,e]
     simp only
     have hn:n=t.s.data.toList.length:=by
      obtain⟨_,n2⟩:=word1_size hw
      simp only at n2
      rcases word1_inv hw with⟨_,_,_,h1⟩ | ⟨_,h1,_,h2,_⟩ | ⟨h1,_⟩ | ⟨h1,_⟩ | ⟨_,h1⟩
      · exact h1
      · have:=dig0_le (t.s.data.toList.takeWhile digb)
        rw[←h1]at this
        omega
      · exact absurd h1 h3
      · exact absurd h1 h4
      · rcases h1 with⟨h1,h2,h5⟩ | ⟨_,h2,h5,_⟩
        · have:=two_len (l:=t.s.data.toList) (by rw[←h2];exact h1)
          have h6:=congrArg List.length h2
          rw[List.length_take]at h6
          omega
        · have h6:=congrArg List.length h2
          rw[List.length_take]at h6
          omega
     rw[hn]at hw
     rw[e]at hw
     have q34:(c.toNat == 34)=false:=by
      cases q:(c.toNat == 34)with
      | false=>rfl
      | true=>
        have hc':c=34:=UInt8.toNat_inj.1 (by simpa using q)
        subst hc'
        rw[word1_cons,if_neg (by decide),if_neg (by decide),if_pos (by decide)]at hw
        unfold wQuo at hw
        cases e2:qsc false r with
        | none=>rw[e2]at hw;cases hw
        | some y=>
          rw[e2]at hw
          simp only at hw
          split at hw
          · cases hw
          · injection hw with hw;injection hw with hw _;exact absurd hw.symm h3
     have q63:(c.toNat == 63)=false:=by
      cases q:(c.toNat == 63)with
      | false=>rfl
      | true=>
        have hc':c=63:=UInt8.toNat_inj.1 (by simpa using q)
        subst hc'
        rw[word1_cons,if_neg (by decide),if_neg (by decide),if_neg (by decide),if_pos (by decide)]at hw
        unfold wName at hw
        split at hw
        · injection hw with hw;injection hw with hw _;exact absurd hw.symm h4
        · cases hw
     rw[hc,q34,q63,whole_of hw];rfl
def gaps (ts:List Tk):List UInt8:=ts.flatMap fun t=>32::wtn t
def lineW (ts:List Tk):List UInt8:=(gaps ts).tail
theorem gaps_cons (t:Tk)(r:List Tk):gaps (t::r)=32::(wtn t++gaps r):=by simp[gaps]
theorem lineW_cons (t:Tk)(r:List Tk):lineW (t::r)=wtn t++gaps r:=by unfold lineW;rw[gaps_cons];rfl
theorem gaps_snoc (ts:List Tk)(t:Tk):gaps (ts++[t])=gaps ts++32::wtn t:=by simp[gaps]
theorem lineW_snoc {ts:List Tk}(h:ts≠[])(t:Tk):lineW (ts++[t])=(lineW ts++[32])++wtn t:=by
 obtain⟨x,r,rfl⟩:=List.exists_cons_of_ne_nil h
 rw[List.cons_append,lineW_cons,lineW_cons,gaps_snoc]
 simp
theorem lineW_one (t:Tk):lineW [t]=wtn t:=by rw[lineW_cons];simp[gaps]
theorem at0_sh (d:Nat)(t:Tk):at0 (sh d t)=at0 t:=rfl
theorem spelt_read:∀(r:List Tk) (t:Tk) (acc:List Tk) (a:Nat),spB t=true→r.all spB=true→acc.length+(r.length+1)≤300→
 ∃us,wds (wtn t++gaps r) acc a= .ok (acc++us)∧us.map at0=(t::r).map at0
 | r,t,acc,a,ht,hr,hl=>by
   have h1:wds (wtn t) [] 0= .ok [at0 t]:=by
    have:=spB_read ht
    unfold readL at this
    split at this
    · cases this
    · exact this
   obtain⟨ys,e,_,_,hm⟩:=wds_move _ _ [] 0 _ (Nat.le_refl _) h1
   rw[List.nil_append]at e
   subst e
   have hm2:=hm acc a (by simp;omega)
   rw[Nat.zero_add]at hm2
   cases r with
   | nil=>
     refine⟨[sh a (at0 t)],?_,rfl⟩
     have:wtn t++gaps []=wtn t:=by simp[gaps]
     rw[this,hm2];rfl
   | cons u r=>
     rw[List.all_cons,Bool.and_eq_true]at hr
     rw[gaps_cons,wds_sep _ _ _ _ _ _ (Nat.le_refl _) hm2]
     obtain⟨us,hu1,hu2⟩:=spelt_read r u (acc++[at0 t].map (sh a)) (a+(wtn t).length+1) hr.1 hr.2 (by simp only[List.length_append,List.length_map,List.length_cons,List.length_nil]at hl ⊢; omega)
     refine⟨[at0 t].map (sh a)++us,?_,?_⟩
     · rw[hu1,List.append_assoc]
     · rw[List.map_append,hu2];rfl
def spellL (ts:List Tk):Except Int (List UInt8):=
 if 300<ts.length then .error 4 else if ts.all spB=true then(if 900<(lineW ts).length then .error 4 else .ok (lineW ts))else .error 1
theorem spell_read {ts:List Tk}{l:List UInt8}(h:spellL ts= .ok l):l.length≤900∧∃us,readL l= .ok us∧us.map at0=ts.map at0:=by
 unfold spellL at h
 split at h
 · cases h
 · split at h
   · rename_i h1 h2
     split at h
     · cases h
     · rename_i h3
       injection h with h
       subst h
       refine⟨by omega,?_⟩
       unfold readL
       rw[if_neg h3]
       cases ts with
       | nil=>exact⟨[],by rw[show lineW []=[] from rfl,wds_nil],rfl⟩
       | cons t r=>
         rw[List.all_cons,Bool.and_eq_true]at h2
         obtain⟨us,e1,e2⟩:=spelt_read r t [] 0 h2.1 h2.2 (by simp only[List.length_cons,List.length_nil]at h1 ⊢; omega)
         rw[lineW_cons]
         exact⟨us,by rw[e1];rfl,e2⟩
   · cases h
theorem wds_spB:∀(n:Nat) (l:List UInt8) (acc:List Tk) (a:Nat) (xs:List Tk),l.length≤n→acc.all spB=true→wds l acc a= .ok xs→xs.all spB=true
 | _,[],acc,a,xs,_,ha,h=>by rw[wds_nil]at h;cases h;exact ha
 | 0,c::r,_,_,_,hn,_,_=>by simp at hn
 | n+1,c::r,acc,a,xs,hn,ha,h=>by
   simp only[List.length_cons]at hn
   by_cases hb:(c.toNat == 32)=true
   · rw[wds_blank hb]at h
     exact wds_spB n r acc (a+1) xs (by omega) ha h
   · have hb':(c.toNat == 32)=false:=by simpa using hb
     cases hw:word1 (c::r)with
     | error e=>rw[wds_bad hb' hw]at h;cases h
     | ok x=>
       by_cases hf:300≤acc.length
       · rw[wds_full hb' hw hf]at h;cases h
       · rw[wds_word hb' hw hf]at h
         refine wds_spB n _ _ _ xs (by simp;omega) ?_ h
         rw[List.all_append,ha]
         obtain⟨k,t,m⟩:=x
         simp[word1_spB a hw]
theorem read_spell {l:List UInt8}{us:List Tk}(h:readL l= .ok us):us.length≤300∧(spellL us= .error 4∨∃m,spellL us= .ok m):=by
 unfold readL at h
 split at h
 · cases h
 · have h1:=wds_count h
   have h2:=wds_spB _ l [] 0 us (Nat.le_refl _) rfl h
   refine⟨h1,?_⟩
   unfold spellL
   rw[if_neg (by omega),if_pos h2]
   split
   · exact .inl rfl
   · exact .inr ⟨_,rfl⟩
theorem wds_small:∀(n:Nat) (l:List UInt8) (acc:List Tk) (a:Nat) (xs:List Tk),l.length≤n→(∀t∈acc,t.s.size≤60)→wds l acc a= .ok xs→∀t∈xs,t.s.size≤60
 | _,[],acc,a,xs,_,ha,h=>by rw[wds_nil]at h;cases h;exact ha
 | 0,c::r,_,_,_,hn,_,_=>by simp at hn
 | n+1,c::r,acc,a,xs,hn,ha,h=>by
   simp only[List.length_cons]at hn
   by_cases hb:(c.toNat == 32)=true
   · rw[wds_blank hb]at h
     exact wds_small n r acc (a+1) xs (by omega) ha h
   · have hb':(c.toNat == 32)=false:=by simpa using hb
     cases hw:word1 (c::r)with
     | error e=>rw[wds_bad hb' hw]at h;cases h
     | ok x=>
       by_cases hf:300≤acc.length
       · rw[wds_full hb' hw hf]at h;cases h
       · rw[wds_word hb' hw hf]at h
         obtain⟨k,t,m⟩:=x
         refine wds_small n _ _ _ xs (by simp;omega) (fun y hy=>?_) h
         rcases List.mem_append.1 hy with hy | hy
         · exact ha y hy
         · simp at hy
           subst hy
           exact word1_small hw
theorem read_small {l:List UInt8}{us:List Tk}(h:readL l= .ok us):∀t∈us,t.s.size≤60:=by
 unfold readL at h
 split at h
 · cases h
 · exact wds_small _ l [] 0 us (Nat.le_refl _) (by simp) h
theorem read_many {l:List UInt8}{us:List Tk}(h:readL l= .ok us):us.length≤300:=(read_spell h).1
theorem spell_many {ts:List Tk}{l:List UInt8}(h:spellL ts= .ok l):ts.length≤300:=by
 unfold spellL at h
 split at h
 · cases h
 · omega
theorem map_len {us ts:List Tk}(h:us.map at0=ts.map at0):us.length=ts.length:=by
 have:=congrArg List.length h
 simpa using this
end Go.Proofs.YtgbljlabifpmgaaGreatDoor
