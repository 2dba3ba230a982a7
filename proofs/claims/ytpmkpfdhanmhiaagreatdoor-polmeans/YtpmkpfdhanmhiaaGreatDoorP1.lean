import Derived.Lib.Strings
set_option linter.unusedVariables false
set_option maxHeartbeats 12000000
namespace Go.Proofs.YtpmkpfdhanmhiaaGreatDoor
def letb (c:UInt8):Bool:=decide (65≤c.toNat) && decide (c.toNat≤90) || decide (97≤c.toNat) && decide (c.toNat≤122) || c.toNat == 95
def digb (c:UInt8):Bool:=decide (48≤c.toNat) && decide (c.toNat≤57)
def pre:List UInt8→Bool
 | []=>true
 | c::r=>letb c && r.all fun d=>letb d || digb d
def nm (l:List UInt8):Bool:=pre l && !l.isEmpty
def nfault (l:List UInt8):Int:=if nm l then(if 20<l.length then 4 else 0)else 1
theorem pre_left {l m:List UInt8}(h:pre (l++m)=true):pre l=true:=by
 cases l with
 | nil=>rfl
 | cons c r=>
   simp only[List.cons_append,pre,Bool.and_eq_true,List.all_append]at h ⊢
   exact⟨h.1,h.2.1⟩
theorem pre_snoc (l:List UInt8)(c:UInt8):pre (l++[c])=(pre l && (letb c || (!l.isEmpty && digb c))):=by
 cases l with
 | nil=>simp[pre]
 | cons d r=>simp[pre,Bool.and_assoc]
theorem pre_bad (s:ByteArray)(k:Nat)(h:k<s.size)(hb:(letb s[k] || (!(k == 0) && digb s[k]))=false):pre s.data.toList=false:=by
 have hl:s.data.toList.length=s.size:=by simp
 cases hp:pre s.data.toList with
 | false=>rfl
 | true=>
   have e:s.data.toList.take (k+1)=s.data.toList.take k++[s[k]]:=by
    rw[List.take_succ_eq_append_getElem (by omega)];rfl
   have h1:pre (s.data.toList.take (k+1))=true:=pre_left (m:=s.data.toList.drop (k+1)) (by rw[List.take_append_drop];exact hp)
   rw[e,pre_snoc]at h1
   have h2:(s.data.toList.take k).isEmpty=(k == 0):=by
    cases k with
    | zero=>rfl
    | succ j=>
      have:(s.data.toList.take (j+1)).length=j+1:=by rw[List.length_take];omega
      cases ht:s.data.toList.take (j+1)with
      | nil=>rw[ht]at this;simp at this
      | cons x y=>rfl
   rw[h2,hb]at h1
   simp at h1
theorem pre_go (s:ByteArray)(k:Nat)(h:k<s.size)(hp:pre (s.data.toList.take k)=true)(hb:(letb s[k] || (!(k == 0) && digb s[k]))=true):pre (s.data.toList.take (k+1))=true:=by
 have hl:s.data.toList.length=s.size:=by simp
 have e:s.data.toList.take (k+1)=s.data.toList.take k++[s[k]]:=by
  rw[List.take_succ_eq_append_getElem (by omega)];rfl
 rw[e,pre_snoc,hp,Bool.true_and]
 have h2:(s.data.toList.take k).isEmpty=(k == 0):=by
  cases k with
  | zero=>rfl
  | succ j=>
    have:(s.data.toList.take (j+1)).length=j+1:=by rw[List.length_take];omega
    cases ht:s.data.toList.take (j+1)with
    | nil=>rw[ht]at this;simp at this
    | cons x y=>rfl
 rw[h2];exact hb
theorem nm_of_bad {l:List UInt8}(h:pre l=false):nm l=false:=by unfold nm;rw[h];rfl
theorem nm_of_pre {l:List UInt8}(h:pre l=true):nm l= !l.isEmpty:=by unfold nm;rw[h];rfl
def okb (c:UInt8):Bool:=decide (32≤c.toNat) && decide (c.toNat≤126)
def grd (c:UInt8):Bool:=c.toNat == 34 || c.toNat == 92
def one (c:UInt8):List UInt8:=if grd c then[92,c]else[c]
def body:List UInt8→List UInt8
 | []=>[]
 | c::l=>one c++body l
def quoted (l:List UInt8):List UInt8:=34::(body l++[34])
def textOk (l:List UInt8):Bool:=decide (l.length≤60) && l.all okb
theorem body_snoc (l:List UInt8)(c:UInt8):body (l++[c])=body l++one c:=by
 induction l with
 | nil=>simp[body]
 | cons d l ih=>simp[body,ih]
theorem one_length (c:UInt8):(one c).length≤2:=by unfold one;split<;>simp
theorem body_length (l:List UInt8):(body l).length≤2*l.length:=by
 induction l with
 | nil=>simp[body]
 | cons c l ih=>have:=one_length c;simp only[body,List.length_append,List.length_cons];omega
def st:List UInt8→List UInt8
 | []=>[]
 | [_]=>[]
 | x::y::r=>if x.toNat == 92 then y::st r else x::st (y::r)
def bl:List UInt8→List UInt8
 | []=>[]
 | [_]=>[]
 | x::y::r=>if x.toNat == 92 then(if r.isEmpty then[]else y::bl r)else x::bl (y::r)
theorem take_snoc (s:ByteArray)(k:Nat)(h:k<s.size):s.data.toList.take (k+1)=s.data.toList.take k++[s[k]]:=by
 rw[List.take_succ_eq_append_getElem (by simpa using h)];rfl
theorem take_all (s:ByteArray):s.data.toList.take s.size=s.data.toList:=List.take_of_length_le (by simp)
theorem all_take_bad (s:ByteArray)(k:Nat)(h:k<s.size)(hb:okb s[k]=false):s.data.toList.all okb=false:=by
 rw[List.all_eq_false]
 exact⟨s[k],by
  have:s[k]=s.data.toList[k]'(by simpa using h):=rfl
  rw[this];exact List.getElem_mem _,by simp[hb]⟩
def tfault (l:List UInt8):Int:=if l.length≤60 then(if l.all okb then 0 else 1)else 4
theorem tfault_long {l:List UInt8}(h:¬l.length≤60):tfault l=4:=if_neg h
theorem tfault_bad {l:List UInt8}(h:l.length≤60)(h2:l.all okb=false):tfault l=1:=by unfold tfault;rw[if_pos h,h2];rfl
theorem tfault_ok {l:List UInt8}(h:textOk l=true):tfault l=0:=by
 unfold textOk at h
 simp only[Bool.and_eq_true,decide_eq_true_eq]at h
 unfold tfault;rw[if_pos h.1,h.2];rfl
theorem tfault_not {l:List UInt8}(h:textOk l=false):tfault l≠0:=by
 unfold tfault
 unfold textOk at h
 by_cases h1:l.length≤60
 · rw[decide_eq_true h1,Bool.true_and]at h
   rw[if_pos h1,h];decide
 · rw[if_neg h1];decide
def ufault (t i:List UInt8):Int:=if nfault t=0 then tfault i else nfault t
theorem ufault_both {t i:List UInt8}(h:ufault t i=0):nfault t=0∧textOk i=true:=by
 unfold ufault at h
 by_cases h1:nfault t=0
 · rw[if_pos h1]at h
   refine⟨h1,?_⟩
   cases h2:textOk i
   · exact absurd h (tfault_not h2)
   · rfl
 · rw[if_neg h1]at h
   exact absurd h h1
theorem nfault_small {t:List UInt8}(h:nfault t=0):t.length≤20:=by
 unfold nfault at h
 by_cases h1:nm t=true
 · rw[if_pos h1]at h
   by_cases h2:20<t.length
   · rw[if_pos h2]at h;exact absurd h (by decide)
   · omega
 · rw[if_neg h1]at h;exact absurd h (by decide)
theorem ufault_small {t i:List UInt8}(h:ufault t i=0):t.length≤20∧i.length≤60:=by
 obtain⟨h1,h2⟩:=ufault_both h
 refine⟨nfault_small h1,?_⟩
 unfold textOk at h2
 rw[Bool.and_eq_true,decide_eq_true_eq]at h2
 exact h2.1
abbrev Pc:=Bool×UInt8
def pc1 (c:UInt8):Pc:=if c.toNat == 42 then(true,0)else(false,c)
def gst (c d:UInt8):Bool:=c.toNat == 92 && d.toNat == 42
def pcat:List UInt8→Pc
 | []=>(false,0)
 | [c]=>pc1 c
 | c::d::_=>if gst c d then(false,42)else pc1 c
def stat:List UInt8→Bool
 | c::d::_=>gst c d
 | _=>false
def psz (l:List UInt8):Nat:=if stat l then 2 else 1
def pcs:List UInt8→List Pc
 | []=>[]
 | [c]=>[pc1 c]
 | c::d::r=>if gst c d then(false,42)::pcs r else pc1 c::pcs (d::r)
def sts:List UInt8→Nat→List Nat
 | [],_=>[]
 | [_],i=>[i]
 | c::d::r,i=>if gst c d then i::sts r (i+2)else i::sts (d::r) (i+1)
def wone (x:Pc):List UInt8:=if x.1 then[42]else if x.2.toNat == 42 then[92,42]else[x.2]
def pwr:List Pc→List UInt8
 | []=>[]
 | x::r=>wone x++pwr r
theorem pcs_cons {l:List UInt8}(h:l≠[]):pcs l=pcat l::pcs (l.drop (psz l)):=by
 match l,h with
 | [c],_=>rfl
 | c::d::r,_=>
   have e1:psz (c::d::r)=if gst c d then 2 else 1:=rfl
   have e2:pcat (c::d::r)=if gst c d then(false,42)else pc1 c:=rfl
   rw[pcs,e1,e2]
   cases gst c d<;>rfl
theorem psz_pos (l:List UInt8):1≤psz l:=by unfold psz;split<;>omega
theorem byte_same {c d:UInt8}(h:c.toNat=d.toNat):c=d:=UInt8.toNat_inj.1 h
theorem wone_pcat {l:List UInt8}(h:l≠[]):l.take (psz l)=wone (pcat l):=by
 have h1:∀c:UInt8,wone (pc1 c)=[c]:=fun c=>by
  unfold pc1 wone
  by_cases e:c.toNat=42
  · obtain rfl:c=42:=byte_same e
    rfl
  · have e':(c.toNat == 42)=false:=by simpa using e
    simp[e']
 match l,h with
 | [c],_=>exact(h1 c).symm
 | c::d::r,_=>
   have e1:psz (c::d::r)=if gst c d then 2 else 1:=rfl
   have e2:pcat (c::d::r)=if gst c d then(false,42)else pc1 c:=rfl
   rw[e1,e2]
   cases hg:gst c d
   · exact(h1 c).symm
   · unfold gst at hg
     simp only[Bool.and_eq_true,beq_iff_eq]at hg
     obtain rfl:c=92:=byte_same hg.1
     obtain rfl:d=42:=byte_same hg.2
     rfl
theorem wr_pcs:∀(n:Nat) (l:List UInt8),l.length≤n→pwr (pcs l)=l
 | _,[],_=>rfl
 | 0,_::_,h=>by simp at h
 | n+1,c::l,h=>by
   have hne:c::l≠[]:=by simp
   have h1:=psz_pos (c::l)
   rw[pcs_cons hne,pwr,←wone_pcat hne,wr_pcs n _ (by simp only[List.length_drop,List.length_cons]at h ⊢; omega),List.take_append_drop]
theorem wr_read (l:List UInt8):pwr (pcs l)=l:=wr_pcs _ l (Nat.le_refl _)
theorem wone_len (x:Pc):1≤(wone x).length∧(wone x).length≤2:=by
 unfold wone
 by_cases h1:x.1=true
 · rw[if_pos h1];simp
 · rw[if_neg h1];split<;>simp
theorem wr_len:∀ps:List Pc,ps.length≤(pwr ps).length∧(pwr ps).length≤2*ps.length
 | []=>⟨Nat.le_refl _,Nat.le_refl _⟩
 | x::r=>by
   have:=wone_len x
   have:=wr_len r
   simp only[pwr,List.length_append,List.length_cons]
   omega
theorem pcs_len (l:List UInt8):(pcs l).length≤l.length:=by
 have:=(wr_len (pcs l)).1
 rw[wr_read]at this
 exact this
def mch (c:UInt8)(f:List UInt8→Bool):List UInt8→Bool
 | []=>false
 | d::r=>d == c && f r
def pM:List Pc→List UInt8→Bool
 | [],s=>s.isEmpty
 | x::ps,s=>if x.1 then(List.range (s.length+1)).any (fun j=>pM ps (s.drop j))else mch x.2 (pM ps) s
def pOne (x:Pc)(a:List UInt8):Prop:=x.1=true∨a=[x.2]
def pFit:List Pc→List UInt8→Prop
 | [],s=>s=[]
 | x::ps,s=>∃a b,s=a++b∧pOne x a∧pFit ps b
theorem M_iff:∀ps s,pM ps s=true↔pFit ps s
 | [],s=>by simp[pM,pFit]
 | x::ps,s=>by
   have ih:=M_iff ps
   unfold pM pFit
   by_cases h:x.1=true
   · rw[if_pos h,List.any_eq_true]
     constructor
     · rintro⟨j,_,hj⟩
       exact⟨s.take j,s.drop j,(List.take_append_drop j s).symm,.inl h,(ih _).1 hj⟩
     · rintro⟨a,b,rfl,_,hb⟩
       exact⟨a.length,by simp;omega,by rw[List.drop_left];exact(ih _).2 hb⟩
   · rw[if_neg h]
     constructor
     · intro hm
       match s,hm with
       | d::r,hm=>
         simp only[mch,Bool.and_eq_true,beq_iff_eq]at hm
         exact⟨[d],r,rfl,.inr (by rw[hm.1]),(ih _).1 hm.2⟩
     · rintro⟨a,b,rfl,h1,hb⟩
       rcases h1 with h1 | rfl
       · exact absurd h1 h
       · show(x.2 == x.2 && pM ps b)=true
         rw[beq_self_eq_true,Bool.true_and];exact(ih _).2 hb
theorem fit_append:∀(ps qs:List Pc) (s:List UInt8),pFit (ps++qs) s↔∃a b,s=a++b∧pFit ps a∧pFit qs b
 | [],qs,s=>by
   constructor
   · intro h;exact⟨[],s,rfl,rfl,h⟩
   · rintro⟨a,b,rfl,rfl,h⟩;exact h
 | x::ps,qs,s=>by
   have ih:=fit_append ps qs
   constructor
   · rintro⟨a,b,rfl,h1,h2⟩
     obtain⟨c,d,rfl,h3,h4⟩:=(ih b).1 h2
     exact⟨a++c,d,by simp,⟨a,c,rfl,h1,h3⟩,h4⟩
   · rintro⟨a,b,rfl,⟨c,d,rfl,h1,h3⟩,h4⟩
     exact⟨c,d++b,by simp,h1,(ih _).2 ⟨d,b,rfl,h3,h4⟩⟩
theorem bool_iff {a b:Bool}(h:a=true↔b=true):a=b:=Bool.eq_iff_iff.2 h
theorem fit_one (x:Pc)(s:List UInt8):pFit [x] s↔pOne x s:=by
 constructor
 · rintro⟨a,b,rfl,h,rfl⟩;simpa using h
 · intro h;exact⟨s,[],by simp,h,rfl⟩
def por (f:Nat→Bool)(j:Nat):Bool:=(List.range (j+1)).any f
theorem por_zero (f:Nat→Bool):por f 0=f 0:=by simp[por]
theorem por_succ (f:Nat→Bool)(j:Nat):por f (j+1)=(f (j+1) || por f j):=by
 unfold por
 rw[List.range_succ,List.any_append]
 simp[Bool.or_comm]
theorem M_wild (ps:List Pc)(x:Pc)(hx:x.1=true)(s:List UInt8)(j:Nat)(hj:j≤s.length):pM (ps++[x]) (s.take j)=por (fun i=>pM ps (s.take i)) j:=by
 apply bool_iff
 unfold por
 rw[M_iff,fit_append,List.any_eq_true]
 constructor
 · rintro⟨a,b,hab,h1,_⟩
   have hl:a.length≤j:=by
    have:=congrArg List.length hab
    rw[List.length_take,List.length_append]at this
    omega
   refine⟨a.length,by simp;omega,?_⟩
   have:s.take a.length=a:=by
    have h2:(s.take j).take a.length=a:=by rw[hab,List.take_left]
    rw[List.take_take,Nat.min_eq_left hl]at h2
    exact h2
   show pM ps (s.take a.length)=true
   rw[this];exact(M_iff _ _).2 h1
 · rintro⟨i,hi,h⟩
   have hi':i≤j:=by simp at hi;omega
   refine⟨s.take i,(s.take j).drop i,?_,(M_iff _ _).1 h,(fit_one _ _).2 (.inl hx)⟩
   have:=List.take_append_drop i (s.take j)
   rw[List.take_take,Nat.min_eq_left hi']at this
   exact this.symm
theorem M_char (ps:List Pc)(x:Pc)(hx:x.1=false)(s:List UInt8)(d:UInt8):pM (ps++[x]) (s++[d])=(pM ps s && d == x.2):=by
 apply bool_iff
 rw[M_iff,fit_append,Bool.and_eq_true,M_iff,beq_iff_eq]
 constructor
 · rintro⟨a,b,hab,h1,h2⟩
   rcases(fit_one _ _).1 h2 with h | rfl
   · rw[hx]at h;cases h
   · obtain⟨rfl,e⟩:=List.append_inj' hab rfl
     exact⟨h1,by simpa using e⟩
 · rintro⟨h1,rfl⟩
   exact⟨s,[x.2],rfl,h1,(fit_one _ _).2 (.inr rfl)⟩
theorem M_char_nil (ps:List Pc)(x:Pc)(hx:x.1=false):pM (ps++[x]) []=false:=by
 cases h:pM (ps++[x]) []
 · rfl
 · obtain⟨a,b,hab,_,h2⟩:=(fit_append _ _ _).1 ((M_iff _ _).1 h)
   rcases(fit_one _ _).1 h2 with h | rfl
   · rw[hx]at h;cases h
   · simp at hab
def plit (l:List UInt8):List Pc:=l.map fun c=>(false,c)
def pcp:Bool→List Pc→List Pc
 | _,[]=>[]
 | b,x::r=>if b && x.1 then pcp x.1 r else x::pcp x.1 r
def pcpn (ps:List Pc):Nat→List Pc
 | 0=>[]
 | k+1=>if decide (0<k) && ((ps.getD k (false,0)).1 && (ps.getD (k-1) (false,0)).1)then pcpn ps k else pcpn ps k++[ps.getD k (false,0)]
def lastw (b:Bool):List Pc→Bool
 | []=>b
 | x::r=>lastw x.1 r
def isbs (x:Pc):Bool:= !x.1 && x.2.toNat == 92
def pCan:Bool→List Pc→Prop
 | _,[]=>True
 | b,x::r=>(x.1=true→x.2=0∧b=false)∧pCan (isbs x) r
def lastb (b:Bool):List Pc→Bool
 | []=>b
 | x::r=>lastb (isbs x) r
theorem pcs_star (l:List UInt8):pcs (42::l)=(true,0)::pcs l:=by
 match l with
 | []=>rfl
 | d::l=>rfl
theorem pcs_guard (l:List UInt8):pcs (92::42::l)=(false,42)::pcs l:=rfl
theorem pcs_plain (c:UInt8)(l:List UInt8)(h1:c.toNat≠42)(h2:c.toNat=92→l.head? ≠some 42):pcs (c::l)=(false,c)::pcs l:=by
 have e:pc1 c=(false,c):=by unfold pc1;rw[if_neg (by simpa using h1)]
 match l,h2 with
 | [],_=>show[pc1 c]=_;rw[e];rfl
 | d::l,h2=>
   rw[pcs,if_neg,e]
   intro hg
   unfold gst at hg
   simp only[Bool.and_eq_true,beq_iff_eq]at hg
   exact h2 hg.1 (by rw[show d=42 from byte_same hg.2];rfl)
end Go.Proofs.YtpmkpfdhanmhiaaGreatDoor
