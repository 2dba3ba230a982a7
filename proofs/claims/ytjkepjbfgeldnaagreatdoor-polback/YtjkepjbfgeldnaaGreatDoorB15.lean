import Derived.Test.YtjkepjbfgeldnaaGreatDoorB14
import Derived.Test.YtjkepjbfgeldnaaGreatDoorB1
import Derived.Test.YtjkepjbfgeldnaaGreatDoorB10
set_option linter.unusedVariables false
set_option maxHeartbeats 12000000
namespace Go.Proofs.YtjkepjbfgeldnaaGreatDoor
def bT:Tk:=⟨0,⟨#[]⟩,0⟩
def parseL (ts:List Tk):Except (Nat×Int) (List Nd):=
 if 300<ts.length then .error (0,4)
 else match ts.findIdx? (fun t=> !spB t)with
  | some i=>.error (i,1)
  | none=>
    match acc ps0 bT ts with
    | some x=>.error (ts.length-x.1,x.2)
    | none=>
      match prs ts with
      | .ok x=>if 200<x.1.length then .error (0,4)else .ok x.1
      | .error _=>.error (0,0)
theorem find_none {ts:List Tk}:ts.findIdx? (fun t=> !spB t)=none↔AllS ts:=by
 rw[List.findIdx?_eq_none_iff]
 constructor
 · intro h t ht;have:=h t ht;simpa using this
 · intro h t ht;have:=h t ht;simpa using this
theorem AllS.kinds {ts:List Tk}(h:AllS ts):AllK ts:=fun t ht=>spB_kOk (h t ht)
theorem parse_ok {ts:List Tk}{e:List Nd}(hl:ts.length≤300)(hs:AllS ts)(hd:Der 0 ts e)(he:e.length≤200):parseL ts= .ok e:=by
 unfold parseL
 rw[if_neg (by omega),find_none.2 hs,acc_der hs.kinds hd,prs_der hd]
 simp only
 rw[if_neg (by omega)]
theorem ok_parse {ts:List Tk}{e:List Nd}(h:parseL ts= .ok e):ts.length≤300∧AllS ts∧Der 0 ts e∧e.length≤200:=by
 unfold parseL at h
 split at h
 · cases h
 · rename_i hl
   cases hf:ts.findIdx? (fun t=> !spB t)with
   | some i=>rw[hf]at h;cases h
   | none=>
     rw[hf]at h
     have hs:=find_none.1 hf
     cases ha:acc ps0 bT ts with
     | some x=>rw[ha]at h;cases h
     | none=>
       rw[ha]at h
       obtain⟨e',hd⟩:=der_acc hs.kinds ha
       rw[prs_der hd]at h
       simp only at h
       split at h
       · cases h
       · injection h with h
         subst h
         exact⟨by omega,hs,hd,by omega⟩
theorem parse_full {ts:List Tk}{e:List Nd}(hl:ts.length≤300)(hs:AllS ts)(hd:Der 0 ts e)(he:200<e.length):parseL ts= .error (0,4):=by
 unfold parseL
 rw[if_neg (by omega),find_none.2 hs,acc_der hs.kinds hd,prs_der hd]
 simp only
 rw[if_pos he]
theorem parse_halt {ts:List Tk}{x:Nat×Int}(hl:ts.length≤300)(hs:AllS ts)(ha:acc ps0 bT ts=some x):parseL ts= .error (ts.length-x.1,x.2):=by
 unfold parseL
 rw[if_neg (by omega),find_none.2 hs,ha]
theorem error_parse {ts:List Tk}{i:Nat}{k:Int}(hl:ts.length≤300)(hs:AllS ts)(h:parseL ts= .error (i,k))(hk:k≠4):∃n,acc ps0 bT ts=some (n,k)∧i=ts.length-n:=by
 cases ha:acc ps0 bT ts with
 | some x=>
   rw[parse_halt hl hs ha]at h
   injection h with h
   injection h with h1 h2
   exact⟨x.1,by rw[←h2],h1.symm⟩
 | none=>
   obtain⟨e,hd⟩:=der_acc hs.kinds ha
   by_cases he:200<e.length
   · rw[parse_full hl hs hd he]at h
     injection h with h
     injection h with h1 h2
     exact absurd h2.symm hk
   · rw[parse_ok hl hs hd (by omega)]at h;cases h
theorem parse_print {v:List Nd}(hx:xfault v=0)(hN:∀x∈v,n64 x)(hl:(wrd v).length≤300):parseL (wrd v)= .ok v:=by
 obtain⟨h1,h2⟩:=xfault_zero hx
 exact parse_ok hl (wd_spB _ v [] h2 hN) (ex_der h2 hN) h1
theorem parse_round {ts:List Tk}{e:List Nd}(h:parseL ts= .ok e)(hl:ts.length+2≤300){t u:Tk}(ht:sgn t [40]=true)(hu:sgn u [41]=true)(h1:spB t=true)(h2:spB u=true):parseL (t::(ts++[u]))= .ok e:=by
 obtain⟨_,hs,hd,he⟩:=ok_parse h
 exact parse_ok (by simp;omega) (AllS.cons h1 (hs.append (AllS.cons h2 AllS.nil))) (der_to (Der.round t u ts e ht hu hd) (by omega) (by omega)) he
theorem parse_left {a b c:List Tk}{x y z:List Nd}(ha:parseL a= .ok x)(hb:parseL b= .ok y)(hc:parseL c= .ok z){t u s:Tk}(ht:sgn t [40]=true)(hu:sgn u [41]=true)(h1:spB t=true)(h2:spB u=true)(h3:spB s=true)
 {l:Nat} (hl:lftL l) (hs:lvlS l s=true) (hw:a.length+b.length+c.length+8≤300) (hn:x.length+y.length+z.length+2≤200):
 parseL ((t::(a++[u]))++s::((t::(b++[u]))++s::(t::(c++[u]))))= .ok (opN (opOf s)::opN (opOf s)::(x++(y++z))):=by
 obtain⟨_,sa,da,_⟩:=ok_parse ha
 obtain⟨_,sb,db,_⟩:=ok_parse hb
 obtain⟨_,sc,dc,_⟩:=ok_parse hc
 have hl8:l≤7:=by unfold lftL at hl;omega
 have ra:=der_to (Der.round t u a x ht hu da) (m:=l) (by omega) (by omega)
 have rb:=der_to (Der.round t u b y ht hu db) (m:=l+1) (by omega) (by omega)
 have rc:=der_to (Der.round t u c z ht hu dc) (m:=l+1) (by omega) (by omega)
 have d:=Der.bin l s _ _ _ _ hl hs (Der.bin l s _ _ _ _ hl hs ra rb) rc
 have br:∀w,AllS w→AllS (t::(w++[u])):=fun w hw=>AllS.cons h1 (hw.append (AllS.cons h2 AllS.nil))
 refine parse_ok (by simp;omega) ((br a sa).append (AllS.cons h3 ((br b sb).append (AllS.cons h3 (br c sc))))) ?_ (by simp;omega)
 have d0:=der_to d (m:=0) (by omega) (by omega)
 simpa using d0
theorem acc_more:∀(l:List Tk) (s:PS) (b:Tk) (n:Nat) (k:Int) (m:List Tk),acc s b l=some (n+1,k)→acc s b (l++m)=some (n+1+m.length,k)
 | [],s,b,n,k,m,h=>by
   rw[acc_nil]at h
   split at h
   · cases h
   · injection h with h;injection h with h;omega
 | t::r,s,b,n,k,m,h=>by
   rw[acc_cons]at h
   rw[List.cons_append,acc_cons]
   cases ho:s.next t b with
   | none=>
     rw[ho]at h
     rw[stp_none]at h ⊢
     injection h with h;injection h with h1 h2
     rw[←h2,List.length_append]
     have:r.length+m.length+1=n+1+m.length:=by omega
     rw[this]
   | some s'=>
     rw[ho]at h
     unfold stp at h ⊢
     simp only at h ⊢
     split at h
     · rename_i hg
       rw[if_pos hg]
       injection h with h;injection h with h1 h2
       rw[←h2,List.length_append]
       have:r.length+m.length+1=n+1+m.length:=by omega
       rw[this]
     · rename_i hg
       rw[if_neg hg]
       exact acc_more r s' t n k m h
theorem acc_ahead:∀(a:List Tk) (s:PS) (b t:Tk) (r:List Tk) (k:Int),acc s b (a++t::r)=some (r.length+1,k)→acc s b a=none∨acc s b a=some (0,1)
 | [],s,b,t,r,k,h=>by
   rw[acc_nil]
   split
   · exact Or.inl rfl
   · exact Or.inr rfl
 | u::a,s,b,t,r,k,h=>by
   rw[List.cons_append,acc_cons]at h
   rw[acc_cons]
   cases ho:s.next u b with
   | none=>
     rw[ho,stp_none]at h
     injection h with h;injection h with h1 h2
     simp at h1;omega
   | some s'=>
     rw[ho]at h
     unfold stp at h ⊢
     simp only at h ⊢
     split at h
     · injection h with h;injection h with h1 h2
       simp at h1;omega
     · rename_i hg
       rw[if_neg hg]
       exact acc_ahead a s' u t r k h
theorem acc_le:∀(l:List Tk) (s:PS) (b:Tk) (x:Nat×Int),acc s b l=some x→x.1≤l.length∧(x.1=0→x.2=1)∧(x.2=1∨x.2=5)
 | [],s,b,x,h=>by
   rw[acc_nil]at h
   split at h
   · cases h
   · injection h with h;subst h;exact⟨by simp,fun _=>rfl,Or.inl rfl⟩
 | t::r,s,b,x,h=>by
   rw[acc_cons]at h
   cases ho:s.next t b with
   | none=>
     rw[ho,stp_none]at h
     injection h with h;subst h;exact⟨by simp,fun h=>by simp at h,Or.inl rfl⟩
   | some s'=>
     rw[ho]at h
     unfold stp at h
     simp only at h
     split at h
     · injection h with h;subst h;exact⟨by simp,fun h=>by simp at h,Or.inr rfl⟩
     · obtain⟨h1,h2⟩:=acc_le r s' t x h
       exact⟨by simp;omega,h2⟩
theorem parse_soon {ts more:List Tk}{i:Nat}{k:Int}(hl:(ts++more).length≤300)(hs:AllS (ts++more))(h:parseL ts= .error (i,k))(hi:i<ts.length)(hk:k≠4):
 parseL (ts++more)= .error (i,k)∧((∃e,parseL (ts.take i)= .ok e)∨parseL (ts.take i)= .error (0,4)∨parseL (ts.take i)= .error (i,1)):=by
 have hs1:AllS ts:=fun t ht=>hs t (List.mem_append_left _ ht)
 rw[List.length_append]at hl
 obtain⟨n,ha,hn⟩:=error_parse (by omega) hs1 h hk
 obtain⟨hle,_,_⟩:=acc_le _ _ _ _ ha
 simp only at hle
 cases n with
 | zero=>omega
 | succ n=>
   constructor
   · have:=acc_more ts ps0 bT n k more ha
     rw[parse_halt (by rw[List.length_append];omega) hs this]
     have e:(ts++more).length-(n+1+more.length)=i:=by rw[List.length_append];omega
     rw[e]
   · have e1:ts=ts.take i++ts.drop i:=(List.take_append_drop i ts).symm
     have hd:ts.drop i≠[]:=by
      intro h0
      have:=congrArg List.length h0
      rw[List.length_drop]at this
      simp at this;omega
     cases hdr:ts.drop i with
     | nil=>exact absurd hdr hd
     | cons t r=>
       have hr:r.length=n:=by
        have:=congrArg List.length hdr
        rw[List.length_drop,List.length_cons]at this
        omega
       rw[e1,hdr,←hr]at ha
       have hs2:AllS (ts.take i):=fun t ht=>hs1 t (List.mem_of_mem_take ht)
       have hl2:(ts.take i).length≤300:=by rw[List.length_take];omega
       rcases acc_ahead _ _ _ t r k ha with h0 | h0
       · obtain⟨e,hd⟩:=der_acc hs2.kinds h0
         by_cases he:200<e.length
         · exact Or.inr (Or.inl (parse_full hl2 hs2 hd he))
         · exact Or.inl ⟨e,parse_ok hl2 hs2 hd (by omega)⟩
       · refine Or.inr (Or.inr ?_)
         rw[parse_halt hl2 hs2 h0]
         have:(ts.take i).length-0=i:=by rw[List.length_take];omega
         simp only[this]
theorem sh_cons {b a:List Tk}{t:Tk}(h:b.map at0=(t::a).map at0):∃k b',b=⟨t.kind,t.s,k⟩::b'∧b'.map at0=a.map at0:=by
 cases b with
 | nil=>simp at h
 | cons u b'=>
   simp only[List.map_cons,List.cons.injEq]at h
   obtain⟨h1,h2⟩:=h
   obtain⟨uk,us,ua⟩:=u
   unfold at0 at h1
   injection h1 with e1 e2
   simp only at e1 e2
   subst e1 e2
   exact⟨ua,b',rfl,h2⟩
theorem sh_app {b a c:List Tk}(h:b.map at0=(a++c).map at0):∃b1 b2,b=b1++b2∧b1.map at0=a.map at0∧b2.map at0=c.map at0:=by
 rw[List.map_append]at h
 obtain⟨b1,b2,rfl,h1,h2⟩:=List.map_eq_append_iff.1 h
 exact⟨b1,b2,rfl,h1,h2⟩
theorem sh_nil {b:List Tk}(h:b.map at0=List.map at0 []):b=[]:=by simpa using h
theorem sh_num {a b:List Tk}(h:b.map at0=a.map at0):nextNum b=nextNum a:=by
 cases a with
 | nil=>rw[sh_nil h]
 | cons t a=>obtain⟨k,b',rfl,_⟩:=sh_cons h;rfl
theorem Der.shift {l:Nat}{a:List Tk}{x:List Nd}(h:Der l a x):∀q:List Tk,q.map at0=a.map at0→Der l q x:=by
 induction h with
 | up l a x h1 _ ih=>exact fun q hq=>Der.up l q x h1 (ih q hq)
 | ite t u v a b c x y z h0 h1 h2 _ _ _ ia ib ic=>
   intro q0 hq0
   obtain⟨kt_,q1,rfl,hq1⟩:=sh_cons hq0
   obtain⟨qa,q2,rfl,ma,hq2⟩:=sh_app hq1
   have ja:=ia _ ma
   obtain⟨ku_,q3,rfl,hq3⟩:=sh_cons hq2
   obtain⟨qb,q4,rfl,mb,hq4⟩:=sh_app hq3
   have jb:=ib _ mb
   obtain⟨kv_,q5,rfl,hq5⟩:=sh_cons hq4
   have jc:=ic _ hq5
   have mc:=hq5
   exact Der.ite _ _ _ _ _ _ _ _ _ h0 h1 h2 ja jb jc
 | bin l t a b x y h0 h1 _ _ ia ib=>
   intro q0 hq0
   obtain⟨qa,q1,rfl,ma,hq1⟩:=sh_app hq0
   have ja:=ia _ ma
   obtain⟨kt_,q2,rfl,hq2⟩:=sh_cons hq1
   have jb:=ib _ hq2
   have mb:=hq2
   exact Der.bin _ _ _ _ _ _ h0 h1 ja jb
 | rel t a b x y h0 _ _ ia ib=>
   intro q0 hq0
   obtain⟨qa,q1,rfl,ma,hq1⟩:=sh_app hq0
   have ja:=ia _ ma
   obtain⟨kt_,q2,rfl,hq2⟩:=sh_cons hq1
   have jb:=ib _ hq2
   have mb:=hq2
   exact Der.rel _ _ _ _ _ h0 ja jb
 | has t u a x h0 h1 _ ia=>
   intro q0 hq0
   obtain⟨qa,q1,rfl,ma,hq1⟩:=sh_app hq0
   have ja:=ia _ ma
   obtain⟨kt_,q2,rfl,hq2⟩:=sh_cons hq1
   obtain⟨ku_,q3,rfl,hq3⟩:=sh_cons hq2
   obtain rfl:=sh_nil hq3
   exact Der.has _ _ _ _ h0 h1 ja
 | like t u a x h0 h1 _ ia=>
   intro q0 hq0
   obtain⟨qa,q1,rfl,ma,hq1⟩:=sh_app hq0
   have ja:=ia _ ma
   obtain⟨kt_,q2,rfl,hq2⟩:=sh_cons hq1
   obtain⟨ku_,q3,rfl,hq3⟩:=sh_cons hq2
   obtain rfl:=sh_nil hq3
   exact Der.like _ _ _ _ h0 h1 ja
 | not t a x h0 _ ia=>
   intro q0 hq0
   obtain⟨kt_,q1,rfl,hq1⟩:=sh_cons hq0
   have ja:=ia _ hq1
   have ma:=hq1
   exact Der.not _ _ _ h0 ja
 | neg t a x h0 h1 _ ia=>
   intro q0 hq0
   obtain⟨kt_,q1,rfl,hq1⟩:=sh_cons hq0
   have ja:=ia _ hq1
   have ma:=hq1
   exact Der.neg _ _ _ h0 ((sh_num ma).trans h1) ja
 | get t u a x h0 h1 _ ia=>
   intro q0 hq0
   obtain⟨qa,q1,rfl,ma,hq1⟩:=sh_app hq0
   have ja:=ia _ ma
   obtain⟨kt_,q2,rfl,hq2⟩:=sh_cons hq1
   obtain⟨ku_,q3,rfl,hq3⟩:=sh_cons hq2
   obtain rfl:=sh_nil hq3
   exact Der.get _ _ _ _ h0 h1 ja
 | call t u v w a b x y h0 h1 h2 h3 h4 _ _ ia ib=>
   intro q0 hq0
   obtain⟨qa,q1,rfl,ma,hq1⟩:=sh_app hq0
   have ja:=ia _ ma
   obtain⟨kt_,q2,rfl,hq2⟩:=sh_cons hq1
   obtain⟨ku_,q3,rfl,hq3⟩:=sh_cons hq2
   obtain⟨kv_,q4,rfl,hq4⟩:=sh_cons hq3
   obtain⟨qb,q5,rfl,mb,hq5⟩:=sh_app hq4
   have jb:=ib _ mb
   obtain⟨kw_,q6,rfl,hq6⟩:=sh_cons hq5
   obtain rfl:=sh_nil hq6
   exact Der.call _ _ _ _ _ _ _ _ h0 h1 h2 h3 h4 ja jb
 | num t h0 h1=>
   intro q0 hq0
   obtain⟨kt_,q1,rfl,hq1⟩:=sh_cons hq0
   obtain rfl:=sh_nil hq1
   exact Der.num _ h0 h1
 | mnum t u h0 h1 h2=>
   intro q0 hq0
   obtain⟨kt_,q1,rfl,hq1⟩:=sh_cons hq0
   obtain⟨ku_,q2,rfl,hq2⟩:=sh_cons hq1
   obtain rfl:=sh_nil hq2
   exact Der.mnum _ _ h0 h1 h2
 | text t h0=>
   intro q0 hq0
   obtain⟨kt_,q1,rfl,hq1⟩:=sh_cons hq0
   obtain rfl:=sh_nil hq1
   exact Der.text _ h0
 | slot t h0=>
   intro q0 hq0
   obtain⟨kt_,q1,rfl,hq1⟩:=sh_cons hq0
   obtain rfl:=sh_nil hq1
   exact Der.slot _ h0
 | ent t u v h0 h1 h2=>
   intro q0 hq0
   obtain⟨kt_,q1,rfl,hq1⟩:=sh_cons hq0
   obtain⟨ku_,q2,rfl,hq2⟩:=sh_cons hq1
   obtain⟨kv_,q3,rfl,hq3⟩:=sh_cons hq2
   obtain rfl:=sh_nil hq3
   exact Der.ent _ _ _ h0 h1 h2
 | yes t h0=>
   intro q0 hq0
   obtain⟨kt_,q1,rfl,hq1⟩:=sh_cons hq0
   obtain rfl:=sh_nil hq1
   exact Der.yes _ h0
 | no t h0=>
   intro q0 hq0
   obtain⟨kt_,q1,rfl,hq1⟩:=sh_cons hq0
   obtain rfl:=sh_nil hq1
   exact Der.no _ h0
 | var t h0 h1 h2 h3=>
   intro q0 hq0
   obtain⟨kt_,q1,rfl,hq1⟩:=sh_cons hq0
   obtain rfl:=sh_nil hq1
   exact Der.var _ h0 h1 h2 h3
 | round t u a x h0 h1 _ ia=>
   intro q0 hq0
   obtain⟨kt_,q1,rfl,hq1⟩:=sh_cons hq0
   obtain⟨qa,q2,rfl,ma,hq2⟩:=sh_app hq1
   have ja:=ia _ ma
   obtain⟨ku_,q3,rfl,hq3⟩:=sh_cons hq2
   obtain rfl:=sh_nil hq3
   exact Der.round _ _ _ _ h0 h1 ja
 | set0 t u h0 h1=>
   intro q0 hq0
   obtain⟨kt_,q1,rfl,hq1⟩:=sh_cons hq0
   obtain⟨ku_,q2,rfl,hq2⟩:=sh_cons hq1
   obtain rfl:=sh_nil hq2
   exact Der.set0 _ _ h0 h1
 | set t u a x h0 h1 _ ia=>
   intro q0 hq0
   obtain⟨kt_,q1,rfl,hq1⟩:=sh_cons hq0
   obtain⟨qa,q2,rfl,ma,hq2⟩:=sh_app hq1
   have ja:=ia _ ma
   obtain⟨ku_,q3,rfl,hq3⟩:=sh_cons hq2
   obtain rfl:=sh_nil hq3
   exact Der.set _ _ _ _ h0 h1 ja
 | rec0 t u h0 h1=>
   intro q0 hq0
   obtain⟨kt_,q1,rfl,hq1⟩:=sh_cons hq0
   obtain⟨ku_,q2,rfl,hq2⟩:=sh_cons hq1
   obtain rfl:=sh_nil hq2
   exact Der.rec0 _ _ h0 h1
 | fields t u k nm a x h0 h1 _ ia=>
   intro q0 hq0
   obtain⟨kt_,q1,rfl,hq1⟩:=sh_cons hq0
   obtain⟨qa,q2,rfl,ma,hq2⟩:=sh_app hq1
   have ja:=ia _ ma
   obtain⟨ku_,q3,rfl,hq3⟩:=sh_cons hq2
   obtain rfl:=sh_nil hq3
   exact Der.fields _ _ _ _ _ _ h0 h1 ja
 | one a x _ ia=>
   intro q0 hq0
   have ja:=ia _ hq0
   have ma:=hq0
   exact Der.one _ _ ja
 | more t k a b x y h0 _ _ ia ib=>
   intro q0 hq0
   obtain⟨qa,q1,rfl,ma,hq1⟩:=sh_app hq0
   have ja:=ia _ ma
   obtain⟨kt_,q2,rfl,hq2⟩:=sh_cons hq1
   have jb:=ib _ hq2
   have mb:=hq2
   exact Der.more _ _ _ _ _ _ h0 ja jb
 | fone u c b y h0 h1 h2 _ ib=>
   intro q0 hq0
   obtain⟨ku_,q1,rfl,hq1⟩:=sh_cons hq0
   obtain⟨kc_,q2,rfl,hq2⟩:=sh_cons hq1
   have jb:=ib _ hq2
   have mb:=hq2
   exact Der.fone _ _ _ _ h0 h1 h2 jb
 | fmore t u c k nm a b x y h0 h1 h2 h3 _ _ ia ib=>
   intro q0 hq0
   obtain⟨qa,q1,rfl,ma,hq1⟩:=sh_app hq0
   have ja:=ia _ ma
   obtain⟨kt_,q2,rfl,hq2⟩:=sh_cons hq1
   obtain⟨ku_,q3,rfl,hq3⟩:=sh_cons hq2
   obtain⟨kc_,q4,rfl,hq4⟩:=sh_cons hq3
   have jb:=ib _ hq4
   have mb:=hq4
   exact Der.fmore _ _ _ _ _ _ _ _ _ h0 h1 h2 h3 ja jb
def brT (t:Tk):Int:=if t.kind=5 then(if t.s=⟨#[123]⟩then 1 else if t.s=⟨#[125]⟩then-1 else 0)else 0
def insF:Int→List Tk→List Tk×List Tk
 | _,[]=>([],[])
 | k,t::r=>if k+brT t=0 then([],r)else(t::(insF (k+brT t) r).1,(insF (k+brT t) r).2)
theorem insF_cons (k:Int)(t:Tk)(r:List Tk):insF k (t::r)=if k+brT t=0 then([],r)else(t::(insF (k+brT t) r).1,(insF (k+brT t) r).2):=by rw[insF]
theorem insF_le:∀(k:Int) (l:List Tk),(insF k l).1.length+(insF k l).2.length≤l.length
 | _,[]=>by simp[insF]
 | k,t::r=>by
   rw[insF_cons]
   split
   · simp
   · have:=insF_le (k+brT t) r
     simp;omega
theorem brT_kind {t:Tk}{n:Int}(h:t.kind=n)(hn:n≠5):brT t=0:=if_neg (by omega)
theorem brT_nam {t:Tk}{s:List UInt8}(h:nam t s=true):brT t=0:=by
 unfold nam at h
 rw[Bool.and_eq_true,beq_iff_eq]at h
 exact brT_kind h.1 (by decide)
theorem brT_sgn {t:Tk}{s:List UInt8}(h:sgn t s=true)(h1:s≠[123])(h2:s≠[125]):brT t=0:=by
 unfold sgn at h
 rw[Bool.and_eq_true,beq_iff_eq,beq_iff_eq]at h
 unfold brT
 rw[if_pos h.1,if_neg (fun e=>h1 (by rw[←h.2];unfold Tk.l;rw[e])),if_neg (fun e=>h2 (by rw[←h.2];unfold Tk.l;rw[e]))]
theorem brT_open {t:Tk}(h:sgn t [123]=true):brT t=1:=by
 unfold sgn at h
 rw[Bool.and_eq_true,beq_iff_eq,beq_iff_eq]at h
 unfold brT
 rw[if_pos h.1,if_pos (bytes_inj h.2)]
theorem brT_shut {t:Tk}(h:sgn t [125]=true):brT t= -1:=by
 unfold sgn at h
 rw[Bool.and_eq_true,beq_iff_eq,beq_iff_eq]at h
 have e:t.s=⟨#[125]⟩:=bytes_inj h.2
 unfold brT
 rw[if_pos h.1,if_neg (by rw[e];decide),if_pos e]
theorem brT_rel {t:Tk}(h:relS t=true):brT t=0:=by
 unfold relS at h
 simp only[Bool.or_eq_true]at h
 rcases h with((h | h) | h) | h
 · exact brT_sgn h (by decide) (by decide)
 · exact brT_sgn h (by decide) (by decide)
 · exact brT_sgn h (by decide) (by decide)
 · exact brT_nam h
theorem brT_has {t:Tk}(h:hasS t=true):brT t=0:=by
 unfold hasS at h
 simp only[Bool.or_eq_true]at h
 rcases h with h | h<;>exact brT_nam h
theorem brT_lvl {l:Nat}{t:Tk}(h:lvlS l t=true):brT t=0:=by
 unfold lvlS ors ands sumS at h
 split at h
 · exact brT_sgn h (by decide) (by decide)
 · split at h
   · exact brT_sgn h (by decide) (by decide)
   · split at h
     · simp only[Bool.or_eq_true]at h
       rcases h with h | h<;>exact brT_sgn h (by decide) (by decide)
     · exact brT_sgn h (by decide) (by decide)
theorem brT_com {nm:List UInt8}{t:Tk}(h:comR nm t=true):brT t=0:=by
 unfold comR at h
 rw[Bool.and_eq_true]at h
 exact brT_sgn h.1 (by decide) (by decide)
def Bal (a:List Tk):Prop:=∀k:Int,1≤k→∀r,insF k (a++r)=(a++(insF k r).1,(insF k r).2)
theorem Bal.nil:Bal []:=fun k _ r=>rfl
theorem Bal.cons {t:Tk}{a:List Tk}(h:brT t=0)(ha:Bal a):Bal (t::a):=fun k hk r=>by
 rw[List.cons_append,insF_cons,h,Int.add_zero,if_neg (by omega),ha k hk r];rfl
theorem Bal.app {a b:List Tk}(ha:Bal a)(hb:Bal b):Bal (a++b):=fun k hk r=>by
 rw[List.append_assoc,ha k hk,hb k hk,List.append_assoc]
theorem Bal.brace {t u:Tk}{a:List Tk}(ht:sgn t [123]=true)(hu:sgn u [125]=true)(ha:Bal a):Bal (t::(a++[u])):=fun k hk r=>by
 rw[List.cons_append,insF_cons,brT_open ht,if_neg (by omega),List.append_assoc,ha (k+1) (by omega),List.singleton_append,insF_cons,brT_shut hu,if_neg (by omega)]
 have e:k+1+ -1=k:=by omega
 rw[e]
 simp
theorem Der.bal {l:Nat}{a:List Tk}{x:List Nd}(h:Der l a x):Bal a:=by
 induction h with
 | up l a x h1 _ ih=>exact ih
 | ite t u v a b c x y z h0 h1 h2 _ _ _ ia ib ic=>
   exact(Bal.cons (brT_nam h0) (Bal.app ia (Bal.cons (brT_nam h1) (Bal.app ib (Bal.cons (brT_nam h2) ic)))))
 | bin l t a b x y h0 h1 _ _ ia ib=>
   exact(Bal.app ia (Bal.cons (brT_lvl h1) ib))
 | rel t a b x y h0 _ _ ia ib=>
   exact(Bal.app ia (Bal.cons (brT_rel h0) ib))
 | has t u a x h0 h1 _ ia=>
   exact(Bal.app ia (Bal.cons (brT_has h0) (Bal.cons (brT_kind h1 (by decide)) Bal.nil)))
 | like t u a x h0 h1 _ ia=>
   exact(Bal.app ia (Bal.cons (brT_nam h0) (Bal.cons (brT_kind h1 (by decide)) Bal.nil)))
 | not t a x h0 _ ia=>
   exact(Bal.cons (brT_sgn h0 (by decide) (by decide)) ia)
 | neg t a x h0 h1 _ ia=>
   exact(Bal.cons (brT_sgn h0 (by decide) (by decide)) ia)
 | get t u a x h0 h1 _ ia=>
   exact(Bal.app ia (Bal.cons (brT_sgn h0 (by decide) (by decide)) (Bal.cons (brT_kind h1 (by decide)) Bal.nil)))
 | call t u v w a b x y h0 h1 h2 h3 h4 _ _ ia ib=>
   exact(Bal.app ia (Bal.cons (brT_sgn h0 (by decide) (by decide)) (Bal.cons (brT_kind h1 (by decide)) (Bal.cons (brT_sgn h3 (by decide) (by decide)) (Bal.app ib (Bal.cons (brT_sgn h4 (by decide) (by decide)) Bal.nil))))))
 | num t h0 h1=>
   exact(Bal.cons (brT_kind h0 (by decide)) Bal.nil)
 | mnum t u h0 h1 h2=>
   exact(Bal.cons (brT_sgn h0 (by decide) (by decide)) (Bal.cons (brT_kind h1 (by decide)) Bal.nil))
 | text t h0=>
   exact(Bal.cons (brT_kind h0 (by decide)) Bal.nil)
 | slot t h0=>
   exact(Bal.cons (brT_kind h0 (by decide)) Bal.nil)
 | ent t u v h0 h1 h2=>
   exact(Bal.cons (brT_kind h0 (by decide)) (Bal.cons (brT_sgn h1 (by decide) (by decide)) (Bal.cons (brT_kind h2 (by decide)) Bal.nil)))
 | yes t h0=>
   exact(Bal.cons (brT_nam h0) Bal.nil)
 | no t h0=>
   exact(Bal.cons (brT_nam h0) Bal.nil)
 | var t h0 h1 h2 h3=>
   exact(Bal.cons (brT_kind h0 (by decide)) Bal.nil)
 | round t u a x h0 h1 _ ia=>
   exact(Bal.cons (brT_sgn h0 (by decide) (by decide)) (Bal.app ia (Bal.cons (brT_sgn h1 (by decide) (by decide)) Bal.nil)))
 | set0 t u h0 h1=>
   exact(Bal.cons (brT_sgn h0 (by decide) (by decide)) (Bal.cons (brT_sgn h1 (by decide) (by decide)) Bal.nil))
 | set t u a x h0 h1 _ ia=>
   exact(Bal.cons (brT_sgn h0 (by decide) (by decide)) (Bal.app ia (Bal.cons (brT_sgn h1 (by decide) (by decide)) Bal.nil)))
 | rec0 t u h0 h1=>
   exact Bal.brace h0 h1 Bal.nil
 | fields t u k nm a x h0 h1 _ ia=>
   exact Bal.brace h0 h1 ia
 | one a x _ ia=>
   exact ia
 | more t k a b x y h0 _ _ ia ib=>
   exact(Bal.app ia (Bal.cons (brT_sgn h0 (by decide) (by decide)) ib))
 | fone u c b y h0 h1 h2 _ ib=>
   exact(Bal.cons (brT_kind h0 (by decide)) (Bal.cons (brT_sgn h2 (by decide) (by decide)) ib))
 | fmore t u c k nm a b x y h0 h1 h2 h3 _ _ ia ib=>
   exact(Bal.app ia (Bal.cons (brT_com h0) (Bal.cons (brT_kind h1 (by decide)) (Bal.cons (brT_sgn h3 (by decide) (by decide)) ib))))
def its (t:Tk):List UInt8:=if t.kind=1∨t.kind=5 then t.l else[]
def hdT (l:List Tk):Tk:=match l with | []=>bT | t::_=>t
def sayB (l:List Tk)(s:List UInt8):Bool:=decide (its (hdT l)=s)
def nextN (l:List Tk)(s:List UInt8):Bool:=match l with | []=>false | t::_=>nam t s
theorem spB_word {t:Tk}(h:spB t=true)(h3:t.kind≠3)(h4:t.kind≠4):word1 t.l= .ok (t.kind,t.l,t.l.length):=by
 unfold spB at h
 rw[if_neg h3,if_neg h4]at h
 cases hl:t.s.data.toList with
 | nil=>rw[hl]at h;cases h
 | cons c r=>
   rw[hl]at h
   simp only[Bool.and_eq_true]at h
   have h2:=h.2
   have el:t.l=c::r:=hl
   rw[el]
   unfold whole at h2
   cases hw:word1 (c::r)with
   | error n=>rw[hw]at h2;cases h2
   | ok x=>
     rw[hw]at h2
     simp only[Bool.and_eq_true,beq_iff_eq]at h2
     obtain⟨a,b,d⟩:=x
     simp only at h2
     rw[h2.1.1,h2.1.2,h2.2]
theorem spB_one {t:Tk}(h:spB t=true)(h1:t.kind=1):nfault t.l=0:=by
 have hw:=spB_word h (by rw[h1];decide) (by rw[h1];decide)
 rcases word1_inv hw with⟨_,_,h,_⟩ | ⟨k,_⟩ | ⟨k,_⟩ | ⟨k,_⟩ | ⟨k,_⟩
 · exact h
 all_goals rw[h1]at k;cases k
theorem spB_two {t:Tk}(h:spB t=true)(h1:t.kind=2):t.l.all digb=true∧t.l.length≤19∧t.l≠[]:=by
 have hw:=spB_word h (by rw[h1];decide) (by rw[h1];decide)
 rcases word1_inv hw with⟨k,_⟩ | ⟨_,e,h2,h3,h4⟩ | ⟨k,_⟩ | ⟨k,_⟩ | ⟨k,_⟩
 · rw[h1]at k;cases k
 · have ha:t.l.takeWhile digb=t.l:=by
    have:=List.takeWhile_prefix (p:=digb) (l:=t.l)
    exact this.eq_of_length h3.symm
   refine⟨?_,h2,?_⟩
   · rw[←ha];exact List.all_takeWhile
   · rw[←ha];exact h4
 all_goals rw[h1]at k;cases k
theorem spB_five {t:Tk}(h:spB t=true)(h1:t.kind=5):two t.l=true∨(∃c,t.l=[c]∧shorts.contains c=true):=by
 have hw:=spB_word h (by rw[h1];decide) (by rw[h1];decide)
 rcases word1_inv hw with⟨k,_⟩ | ⟨k,_⟩ | ⟨k,_⟩ | ⟨k,_⟩ | ⟨_,⟨h2,_⟩ | ⟨h2,e,h3,h4⟩⟩
 · rw[h1]at k;cases k
 · rw[h1]at k;cases k
 · rw[h1]at k;cases k
 · rw[h1]at k;cases k
 · exact Or.inl h2
 · right
   match hl:t.l,h3,h2 with
   | [],h3,_=>simp at h3
   | [c],_,h2=>exact⟨c,rfl,by simpa using h2⟩
   | _::_::_,h3,_=>simp at h3
theorem spB_size {t:Tk}(h:spB t=true):t.l.length≤60:=by
 by_cases h3:t.kind=3
 · unfold spB at h
   rw[if_pos h3]at h
   unfold textOk at h
   simp at h
   show t.s.data.toList.length≤60
   simp;omega
 · by_cases h4:t.kind=4
   · unfold spB at h
     rw[if_neg h3,if_pos h4]at h
     have hn:nfault t.s.data.toList=0:=by simpa using h
     have:=(name_low (l:=t.l) hn).1
     omega
   · have hw:=spB_word h h3 h4
     rcases word1_inv hw with⟨_,_,h,_⟩ | ⟨_,_,h,_⟩ | ⟨k,_⟩ | ⟨k,_⟩ | ⟨_,⟨h2,_⟩ | ⟨h2,e,h3,h4⟩⟩
     · have:=(name_low h).1;omega
     · omega
     · exact absurd k h3
     · exact absurd k h4
     · unfold two at h2
       simp at h2
       rcases h2 with(((h2 | h2) | h2) | h2) | h2<;>rw[h2]<;>decide
     · omega
theorem name_head {l:List UInt8}(h:nfault l=0):∃c r,l=c::r∧letb c=true:=by
 unfold nfault at h
 split at h
 · rename_i hn
   unfold nm at hn
   rw[Bool.and_eq_true]at hn
   cases l with
   | nil=>simp at hn
   | cons c r=>
     refine⟨c,r,rfl,?_⟩
     have:=hn.1
     simp only[pre,Bool.and_eq_true]at this
     exact this.1
 · cases h
theorem sign_head {t:Tk}(h:spB t=true)(h1:t.kind=5):∃c r,t.l=c::r∧letb c=false:=by
 rcases spB_five h h1 with h2 | ⟨c,e,hc⟩
 · unfold two at h2
   simp at h2
   rcases h2 with(((h2 | h2) | h2) | h2) | h2<;>rw[h2]<;>exact⟨_,_,rfl,by decide⟩
 · refine⟨c,[],e,?_⟩
   unfold shorts at hc
   simp at hc
   rcases hc with rfl | rfl | rfl | rfl | rfl | rfl | rfl | rfl | rfl | rfl | rfl | rfl | rfl | rfl<;>decide
theorem sayB_nam {l:List Tk}{c:UInt8}{w:List UInt8}(hl:AllS l)(hc:letb c=true):sayB l (c::w)=nextN l (c::w):=by
 unfold sayB nextN
 cases l with
 | nil=>rfl
 | cons t r=>
   have ht:=hl t (List.mem_cons_self ..)
   show decide (its t=c::w)=nam t (c::w)
   unfold its nam
   by_cases h1:t.kind=1
   · rw[if_pos (Or.inl h1),h1]
     rw[Bool.eq_iff_iff];simp
   · by_cases h5:t.kind=5
     · obtain⟨d,r',e,hd⟩:=sign_head ht h5
       rw[if_pos (Or.inr h5),e,h5]
       rw[Bool.eq_iff_iff];simp
       intro e1;rw[e1,hc]at hd;cases hd
     · rw[if_neg (by rintro(h | h)<;>contradiction)]
       rw[Bool.eq_iff_iff];simp[h1]
theorem sayB_sgn {l:List Tk}{c:UInt8}{w:List UInt8}(hl:AllS l)(hc:letb c=false):sayB l (c::w)=nextS l (c::w):=by
 unfold sayB nextS
 cases l with
 | nil=>rfl
 | cons t r=>
   have ht:=hl t (List.mem_cons_self ..)
   show decide (its t=c::w)=sgn t (c::w)
   unfold its sgn
   by_cases h1:t.kind=1
   · obtain⟨d,r',e,hd⟩:=name_head (spB_one ht h1)
     rw[if_pos (Or.inl h1),e,h1]
     rw[Bool.eq_iff_iff];simp
     intro e1;rw[e1,hc]at hd;cases hd
   · by_cases h5:t.kind=5
     · rw[if_pos (Or.inr h5),h5]
       rw[Bool.eq_iff_iff];simp
     · rw[if_neg (by rintro(h | h)<;>contradiction)]
       rw[Bool.eq_iff_iff];simp[h5]
theorem der_len {l:Nat}{a:List Tk}{x:List Nd}(h:Der l a x):(l≤8→x.length≤a.length)∧(9≤l→x.length≤a.length+1):=by
 induction h with
 | up l a x hl hd ih=>
   refine⟨fun _=>ih.1 (by omega),fun h=>by omega⟩
 | bin l t a b x y hl _ _ _ iha ihb=>
   have hl':l≤5:=by unfold lftL at hl;omega
   refine⟨fun _=>?_,fun h=>by omega⟩
   have:=iha.1 (by omega);have:=ihb.1 (by omega)
   simp;omega
 | _=>simp_all<;>omega
theorem der_some {l:Nat}{a:List Tk}{x:List Nd}(h:Der l a x)(hl:l≤8):x≠[]:=by
 have:x≠[]:=by
  clear hl
  induction h<;>simp_all
 exact this
theorem pE_len {n lvl:Nat}{l r:List Tk}{e:List Nd}(hk:AllK l)(hl:lvl≤8)(h:pE n lvl l=some (.ok (e,r))):e.length+r.length≤l.length∧e≠[]∧∃a,l=a++r:=by
 obtain⟨a,h1,h2⟩:=(snd_all n).E lvl l hl hk e r h
 have:=(der_len h2).1 hl
 refine⟨by rw[h1,List.length_append];omega,?_,a,h1⟩
 exact der_some h2 hl
abbrev PRes:=Except (Nat×Int) (List Nd×List Tk)
theorem andR_some {X:Option PRes}{f:List Nd→List Tk→Option PRes}{res:PRes}(h:andR X f=some res):(∃e,X=some (.error e)∧res= .error e)∨∃a r,X=some (.ok (a,r))∧f a r=some res:=by
 unfold andR at h
 match X,h with
 | none,h=>cases h
 | some (.error e),h=>injection h with h;exact Or.inl ⟨e,rfl,h.symm⟩
 | some (.ok (a,r)),h=>exact Or.inr ⟨a,r,rfl,h⟩
theorem must_some {p:Tk→Bool}{l:List Tk}{f:Tk→List Tk→Option PRes}{res:PRes}(h:must p l f=some res):
 ((∀t r,l=t::r→p t=false)∧res= .error (l.length,1))∨∃t r,l=t::r∧p t=true∧f t r=some res:=by
 unfold must at h
 cases l with
 | nil=>injection h with h;exact Or.inl ⟨fun _ _ h=>(by cases h),h.symm⟩
 | cons t r=>
   simp only at h
   by_cases hp:p t=true
   · rw[if_pos hp]at h;exact Or.inr ⟨t,r,rfl,hp,h⟩
   · rw[if_neg hp]at h
     injection h with h
     refine Or.inl ⟨fun u r' e=>?_,h.symm⟩
     injection e with e1 _
     subst e1;simpa using hp
theorem pE_zero_if {n:Nat}{t:Tk}{r:List Tk}(c:(nam t wIf && !nextS r [58,58])=true):pE (n+1) 0 (t::r)=andR (pE n 0 r) fun a r1=>must (fun u=>nam u wThen) r1 fun _ r2=>andR (pE n 0 r2) fun b r3=>must (fun u=>nam u wElse) r3 fun _ r4=>
 andR (pE n 0 r4) fun c r5=>some (.ok (opN 13::(a++(b++c)),r5)):=by
 rw[pE.eq_def];simp only[if_true,c]
theorem pE_zero_up {n:Nat}{l:List Tk}(c:(nextN l wIf && !nextS l.tail [58,58])=false):pE (n+1) 0 l=pE n 1 l:=by
 cases l with
 | nil=>rw[pE.eq_def];first | done | rfl
 | cons t r=>
   have c':¬(nam t wIf && !nextS r [58,58])=true:=by
    have:(nam t wIf && !nextS r [58,58])=false:=c
    rw[this];decide
   rw[pE.eq_def];simp only[if_true,if_neg c']
theorem pE_left {n lvl:Nat}{l:List Tk}(hl:lftL lvl):pE (n+1) lvl l=andR (pE n (lvl+1) l) fun a r=>pL n lvl a r:=by
 rw[pE.eq_def]
 rcases hl with hl | hl | hl | hl<;>subst hl<;>rfl
theorem pL_go {n lvl:Nat}{a:List Nd}{t:Tk}{r:List Tk}{res:PRes}(hl:lvlS lvl t=true)(h:pL n lvl a (t::r)=some res):
 (∃e,pE n (lvl+1) r=some (.error e)∧res= .error e)∨∃b r1,pE n (lvl+1) r=some (.ok (b,r1))∧pL n lvl (opN (opOf t)::(a++b)) r1=some res:=by
 cases n with
 | zero=>rw[pL]at h;cases h
 | succ n=>
   rw[pL.eq_def]at h
   simp only[hl,if_true]at h
   rcases andR_some h with⟨e,h1,h2⟩ | ⟨b,r1,h1,h2⟩
   · exact Or.inl ⟨e,(mono_all n (n+1) (by omega)).E _ _ _ h1,h2⟩
   · exact Or.inr ⟨b,r1,(mono_all n (n+1) (by omega)).E _ _ _ h1,(mono_all n (n+1) (by omega)).L _ _ _ _ h2⟩
theorem pL_stop {n lvl:Nat}{a:List Nd}{l:List Tk}{res:PRes}(hl:∀t r,l=t::r→lvlS lvl t=false)(h:pL n lvl a l=some res):res= .ok (a,l):=by
 cases n with
 | zero=>rw[pL]at h;cases h
 | succ n=>
   rw[pL.eq_def]at h
   cases l with
   | nil=>injection h with h;exact h.symm
   | cons t r=>
     simp only[hl t r rfl,Bool.false_eq_true,if_false]at h
     injection h with h;exact h.symm
theorem pE_three {n:Nat}{l:List Tk}:pE (n+1) 3 l=andR (pE n 4 l) fun a r=>
        match r with
        | []=>some (.ok (a,[]))
        | t::r1=>
          if relS t=true then andR (pE n 4 r1) fun b r2=>some (.ok (opN (opOf t)::(a++b),r2))
          else if hasS t=true then must (fun u=>u.kind == 1) r1 fun u r2=>some (.ok (mkN (if nam t wHas=true then 21 else 24) 0 u.l []::a,r2))
          else if nam t wLike=true then must (fun u=>u.kind == 3) r1 fun u r2=>some (.ok (mkN 23 0 u.l []::a,r2))
          else some (.ok (a,t::r1)):=by rw[pE.eq_def];first | done | rfl
theorem pE_not {n:Nat}{t:Tk}{r:List Tk}(c1:sgn t [33]=true):pE (n+1) 6 (t::r)=andR (pE n 6 r) fun a r1=>some (.ok (opN 9::a,r1)):=by
 rw[pE.eq_def];simp[c1]
theorem pE_neg {n:Nat}{t:Tk}{r:List Tk}(c1:sgn t [33]=false)(c2:(sgn t [45] && !nextNum r)=true):pE (n+1) 6 (t::r)=andR (pE n 6 r) fun a r1=>some (.ok (opN 10::a,r1)):=by
 rw[pE.eq_def];simp[c1,c2]
theorem pE_six_up {n:Nat}{l:List Tk}(c1:nextS l [33]=false)(c2:(nextS l [45] && !nextNum l.tail)=false):pE (n+1) 6 l=pE n 7 l:=by
 cases l with
 | nil=>rw[pE.eq_def];first | done | rfl
 | cons t r=>
   have c1':sgn t [33]=false:=c1
   have c2':(sgn t [45] && !nextNum r)=false:=c2
   rw[pE.eq_def];simp only[c1',c2',Bool.false_eq_true,if_false];rfl
theorem pE_seven {n:Nat}{l:List Tk}:pE (n+1) 7 l=andR (pE n 8 l) fun a r=>pP n a r:=by rw[pE.eq_def];first | done | rfl
theorem pP_stop {n:Nat}{a:List Nd}{l:List Tk}{res:PRes}(hl:nextS l [46]=false)(h:pP n a l=some res):res= .ok (a,l):=by
 cases n with
 | zero=>rw[pP]at h;cases h
 | succ n=>
   rw[pP.eq_def]at h
   cases l with
   | nil=>injection h with h;exact h.symm
   | cons t r=>
     have hl':sgn t [46]=false:=hl
     simp only[hl',Bool.false_eq_true,if_false]at h
     injection h with h;exact h.symm
theorem pP_bad {n:Nat}{a:List Nd}{t:Tk}{r:List Tk}{res:PRes}(ht:sgn t [46]=true)(hr:∀u r1,r=u::r1→(u.kind == 1)=false)(h:pP n a (t::r)=some res):res= .error (r.length,1):=by
 cases n with
 | zero=>rw[pP]at h;cases h
 | succ n=>
   rw[pP.eq_def]at h
   simp only[ht,if_true]at h
   rcases must_some h with⟨_,h1⟩ | ⟨u,r1,e,hu,_⟩
   · exact h1
   · rw[hr u r1 e]at hu;cases hu
theorem pP_get {n:Nat}{a:List Nd}{t u:Tk}{r:List Tk}{res:PRes}(ht:sgn t [46]=true)(hu:(u.kind == 1)=true)(hc:(isCall u && nextS r [40])=false)(h:pP n a (t::u::r)=some res):
 pP n (mkN 22 0 u.l []::a) r=some res:=by
 cases n with
 | zero=>rw[pP]at h;cases h
 | succ n=>
   rw[pP.eq_def]at h
   simp only[ht,if_true]at h
   rcases must_some h with⟨h1,_⟩ | ⟨u',r1,e,_,h1⟩
   · rw[h1 u r rfl]at hu;cases hu
   · injection e with e1 e2
     subst e1 e2
     rw[hc,if_neg (by decide)]at h1
     exact(mono_all n (n+1) (by omega)).P _ _ _ h1
theorem pP_call {n:Nat}{a:List Nd}{t u v:Tk}{r:List Tk}{res:PRes}(ht:sgn t [46]=true)(hu:(u.kind == 1)=true)(hc:isCall u=true)(hv:sgn v [40]=true)(h:pP n a (t::u::v::r)=some res):
 (∃e,pE n 0 r=some (.error e)∧res= .error e)∨∃b r2,pE n 0 r=some (.ok (b,r2))∧
  (((∀x r',r2=x::r'→sgn x [41]=false)∧res= .error (r2.length,1))∨∃x r3,r2=x::r3∧sgn x [41]=true∧pP n (opN (callOp u)::(a++b)) r3=some res):=by
 cases n with
 | zero=>rw[pP]at h;cases h
 | succ n=>
   rw[pP.eq_def]at h
   simp only[ht,if_true]at h
   rcases must_some h with⟨h1,_⟩ | ⟨u',r1,e,_,h1⟩
   · rw[h1 u (v::r) rfl]at hu;cases hu
   · injection e with e1 e2
     subst e1 e2
     rw[hc,show nextS (v::r) [40]=true from hv,if_pos (by decide)]at h1
     rcases andR_some h1 with⟨e,h2,h3⟩ | ⟨b,r2,h2,h3⟩
     · exact Or.inl ⟨e,(mono_all n (n+1) (by omega)).E _ _ _ h2,h3⟩
     · refine Or.inr ⟨b,r2,(mono_all n (n+1) (by omega)).E _ _ _ h2,?_⟩
       rcases must_some h3 with⟨h4,h5⟩ | ⟨x,r3,h4,h5,h6⟩
       · exact Or.inl ⟨h4,h5⟩
       · exact Or.inr ⟨x,r3,h4,h5,(mono_all n (n+1) (by omega)).P _ _ _ h6⟩
theorem pS_go {n k:Nat}{acc:List Nd}{l:List Tk}{res:PRes}(h:pS n k acc l=some res):
 (∃e,pE n 0 l=some (.error e)∧res= .error e)∨∃b r,pE n 0 l=some (.ok (b,r))∧
  ((nextS r [93]=true∧res= .ok (mkN 5 ((k:Int)+1) [] []::(acc++b),r.tail))∨(nextS r [93]=false∧nextS r [44]=true∧pS n (k+1) (acc++b) r.tail=some res)∨(nextS r [93]=false∧nextS r [44]=false∧res= .error (r.length,1))):=by
 cases n with
 | zero=>rw[pS]at h;cases h
 | succ n=>
   rw[pS.eq_def]at h
   simp only at h
   rcases andR_some h with⟨e,h2,h3⟩ | ⟨b,r,h2,h3⟩
   · exact Or.inl ⟨e,(mono_all n (n+1) (by omega)).E _ _ _ h2,h3⟩
   · refine Or.inr ⟨b,r,(mono_all n (n+1) (by omega)).E _ _ _ h2,?_⟩
     cases r with
     | nil=>injection h3 with h3;exact Or.inr (Or.inr ⟨rfl,rfl,h3.symm⟩)
     | cons t r1=>
       simp only at h3
       by_cases c1:sgn t [93]=true
       · rw[if_pos c1]at h3;injection h3 with h3;exact Or.inl ⟨c1,h3.symm⟩
       · rw[if_neg c1]at h3
         have c1':nextS (t::r1) [93]=false:=by simpa[nextS]using c1
         by_cases c2:sgn t [44]=true
         · rw[if_pos c2]at h3;exact Or.inr (Or.inl ⟨c1',c2,(mono_all n (n+1) (by omega)).S _ _ _ _ h3⟩)
         · rw[if_neg c2]at h3;injection h3 with h3
           exact Or.inr (Or.inr ⟨c1',by simpa[nextS]using c2,h3.symm⟩)
def keyB (nm:List UInt8)(l:List Tk):Bool:=match l with | []=>false | u::_=>u.kind == 1 && decide (Lib.compareBytes nm u.l<0)
theorem pK_bad {n k:Nat}{nm:List UInt8}{acc:List Nd}{l:List Tk}{res:PRes}(hk:keyB nm l=false)(h:pK n k nm acc l=some res):res= .error (l.length,1):=by
 cases n with
 | zero=>rw[pK]at h;cases h
 | succ n=>
   rw[pK.eq_def]at h
   simp only at h
   rcases must_some h with⟨_,h1⟩ | ⟨u,r,e,hu,_⟩
   · exact h1
   · subst e
     have:(u.kind == 1 && decide (Lib.compareBytes nm u.l<0))=false:=hk
     rw[this]at hu;cases hu
theorem pK_colon {n k:Nat}{nm:List UInt8}{acc:List Nd}{u:Tk}{l:List Tk}{res:PRes}(hk:keyB nm (u::l)=true)(hc:nextS l [58]=false)(h:pK n k nm acc (u::l)=some res):res= .error (l.length,1):=by
 cases n with
 | zero=>rw[pK]at h;cases h
 | succ n=>
   rw[pK.eq_def]at h
   simp only at h
   rcases must_some h with⟨h1,_⟩ | ⟨u',r,e,hu,h1⟩
   · have:(u.kind == 1 && decide (Lib.compareBytes nm u.l<0))=true:=hk
     rw[h1 u l rfl]at this;cases this
   · injection e with e1 e2
     subst e1 e2
     rcases must_some h1 with⟨_,h2⟩ | ⟨v,r,e,hv,_⟩
     · exact h2
     · subst e
       have:sgn v [58]=false:=hc
       rw[this]at hv;cases hv
theorem pK_go {n k:Nat}{nm:List UInt8}{acc:List Nd}{u v:Tk}{l:List Tk}{res:PRes}(hk:keyB nm (u::v::l)=true)(hc:sgn v [58]=true)(h:pK n k nm acc (u::v::l)=some res):
 (∃e,pE n 0 l=some (.error e)∧res= .error e)∨∃b r,pE n 0 l=some (.ok (b,r))∧
  ((nextS r [125]=true∧res= .ok (mkN 6 ((k:Int)+1) [] []::(acc++(mkN 7 0 u.l []::b)),r.tail))∨
   (nextS r [125]=false∧u.l≠wLast∧nextS r [44]=true∧pK n (k+1) u.l (acc++(mkN 7 0 u.l []::b)) r.tail=some res)∨
   (nextS r [125]=false∧(u.l=wLast∨nextS r [44]=false)∧res= .error (r.length,1))):=by
 cases n with
 | zero=>rw[pK]at h;cases h
 | succ n=>
   rw[pK.eq_def]at h
   simp only at h
   rcases must_some h with⟨h1,_⟩ | ⟨u',r,e,hu,h1⟩
   · have:(u.kind == 1 && decide (Lib.compareBytes nm u.l<0))=true:=hk
     rw[h1 u _ rfl]at this;cases this
   · injection e with e1 e2
     subst e1 e2
     rcases must_some h1 with⟨h2,_⟩ | ⟨v',r,e,hv,h2⟩
     · rw[h2 v l rfl]at hc;cases hc
     · injection e with e1 e2
       subst e1 e2
       rcases andR_some h2 with⟨e,h3,h4⟩ | ⟨b,r,h3,h4⟩
       · exact Or.inl ⟨e,(mono_all n (n+1) (by omega)).E _ _ _ h3,h4⟩
       · refine Or.inr ⟨b,r,(mono_all n (n+1) (by omega)).E _ _ _ h3,?_⟩
         cases r with
         | nil=>injection h4 with h4;exact Or.inr (Or.inr ⟨rfl,Or.inr rfl,h4.symm⟩)
         | cons t r1=>
           simp only at h4
           by_cases c1:sgn t [125]=true
           · rw[if_pos c1]at h4;injection h4 with h4;exact Or.inl ⟨c1,h4.symm⟩
           · rw[if_neg c1]at h4
             have c1':nextS (t::r1) [125]=false:=by simpa[nextS]using c1
             by_cases c2:comR u.l t=true
             · rw[if_pos c2]at h4
               have c3:=c2
               unfold comR at c3
               rw[Bool.and_eq_true]at c3
               exact Or.inr (Or.inl ⟨c1',by simpa using c3.2,c3.1,(mono_all n (n+1) (by omega)).K _ _ _ _ _ h4⟩)
             · rw[if_neg c2]at h4;injection h4 with h4
               refine Or.inr (Or.inr ⟨c1',?_,h4.symm⟩)
               by_cases c3:u.l=wLast
               · exact Or.inl c3
               · right
                 have:comR u.l t=false:=by simpa using c2
                 unfold comR at this
                 rw[show(u.l == wLast)=false from by simpa using c3]at this
                 simpa[nextS]using this
def FO (n:Nat)(nm:List UInt8)(l:List Tk)(out:Except (Nat×Int) (Tk×List Nd×List Tk)):Prop:=
 (keyB nm l=false∧out= .error (l.length,1))∨
 (∃u l1,l=u::l1∧keyB nm l=true∧
  ((nextS l1 [58]=false∧out= .error (l1.length,1))∨
   (∃v l2,l1=v::l2∧sgn v [58]=true∧
    ((∃e,pE n 0 l2=some (.error e)∧out= .error e)∨
     (∃b r,pE n 0 l2=some (.ok (b,r))∧((u.l=wLast∧nextS r [125]=false∧out= .error (r.length,1))∨((u.l≠wLast∨nextS r [125]=true)∧out= .ok (u,b,r))))))))
def RecI (n:Nat)(res:PRes)(vs:List (List Nd))(nm:List UInt8)(l:List Tk):Prop:=
 (nextS l [125]=true∧res= .ok (mkN 6 vs.length [] []::vs.flatten,l.tail))∨
 (nextS l [125]=false∧((vs=[]∧nm=[]∧pK n 0 [] [] l=some res)∨(vs≠[]∧nextS l [44]=true∧pK n vs.length nm vs.flatten l.tail=some res)∨(vs≠[]∧nextS l [44]=false∧res= .error (l.length,1))))
theorem RecI.start {n:Nat}{res:PRes}{l:List Tk}(h:(if nextS l [125]=true then some (.ok ([mkN 6 0 [] []],l.tail))else pK n 0 [] [] l)=some res):RecI n res [] [] l:=by
 by_cases c:nextS l [125]=true
 · rw[if_pos c]at h;injection h with h;exact Or.inl ⟨c,h.symm⟩
 · rw[if_neg c]at h;exact Or.inr ⟨by simpa using c,Or.inl ⟨rfl,rfl,h⟩⟩
theorem RecI.part {n:Nat}{res:PRes}{vs:List (List Nd)}{nm:List UInt8}{l:List Tk}(h:pK n vs.length nm vs.flatten l=some res):
 ∃out,FO n nm l out∧((∃e,out= .error e∧res= .error e)∨∃u b r,out= .ok (u,b,r)∧RecI n res (vs++[mkN 7 0 u.l []::b]) u.l r):=by
 by_cases c1:keyB nm l=true
 · cases l with
   | nil=>cases c1
   | cons u l1=>
     by_cases c2:nextS l1 [58]=true
     · cases l1 with
       | nil=>cases c2
       | cons v l2=>
         have hv:sgn v [58]=true:=c2
         rcases pK_go c1 hv h with⟨e,h1,h2⟩ | ⟨b,r,h1,h2⟩
         · exact⟨.error e,Or.inr ⟨u,_,rfl,c1,Or.inr ⟨v,l2,rfl,hv,Or.inl ⟨e,h1,rfl⟩⟩⟩,Or.inl ⟨e,rfl,h2⟩⟩
         · have ef:(vs++[mkN 7 0 u.l []::b]).flatten=vs.flatten++(mkN 7 0 u.l []::b):=by simp
           have el:(vs++[mkN 7 0 u.l []::b]).length=vs.length+1:=by simp
           have hne:vs++[mkN 7 0 u.l []::b]≠[]:=by simp
           rcases h2 with⟨c3,h3⟩ | ⟨c3,c4,c5,h3⟩ | ⟨c3,c4,h3⟩
           · refine⟨.ok (u,b,r),Or.inr ⟨u,_,rfl,c1,Or.inr ⟨v,l2,rfl,hv,Or.inr ⟨b,r,h1,Or.inr ⟨Or.inr c3,rfl⟩⟩⟩⟩,Or.inr ⟨u,b,r,rfl,?_⟩⟩
             unfold RecI;rw[ef,el];exact Or.inl ⟨c3,h3⟩
           · refine⟨.ok (u,b,r),Or.inr ⟨u,_,rfl,c1,Or.inr ⟨v,l2,rfl,hv,Or.inr ⟨b,r,h1,Or.inr ⟨Or.inl c4,rfl⟩⟩⟩⟩,Or.inr ⟨u,b,r,rfl,?_⟩⟩
             unfold RecI;rw[ef,el];exact Or.inr ⟨c3,Or.inr (Or.inl ⟨hne,c5,h3⟩)⟩
           · by_cases c6:u.l=wLast
             · exact⟨.error (r.length,1),Or.inr ⟨u,_,rfl,c1,Or.inr ⟨v,l2,rfl,hv,Or.inr ⟨b,r,h1,Or.inl ⟨c6,c3,rfl⟩⟩⟩⟩,Or.inl ⟨_,rfl,h3⟩⟩
             · have c7:nextS r [44]=false:=by
                rcases c4 with c4 | c4
                · exact absurd c4 c6
                · exact c4
               refine⟨.ok (u,b,r),Or.inr ⟨u,_,rfl,c1,Or.inr ⟨v,l2,rfl,hv,Or.inr ⟨b,r,h1,Or.inr ⟨Or.inl c6,rfl⟩⟩⟩⟩,Or.inr ⟨u,b,r,rfl,?_⟩⟩
               unfold RecI;rw[ef,el];exact Or.inr ⟨c3,Or.inr (Or.inr ⟨hne,c7,h3⟩)⟩
     · have c2':nextS l1 [58]=false:=by simpa using c2
       exact⟨.error (l1.length,1),Or.inr ⟨u,l1,rfl,c1,Or.inl ⟨c2',rfl⟩⟩,Or.inl ⟨_,rfl,pK_colon c1 c2' h⟩⟩
 · have c1':keyB nm l=false:=by simpa using c1
   exact⟨.error (l.length,1),Or.inl ⟨c1',rfl⟩,Or.inl ⟨_,rfl,pK_bad c1' h⟩⟩
inductive Tp where
 | nil:Tp
 | cons (x:Nd) (k r:Tp):Tp
namespace Tp
def flat:Tp→List Nd
 | nil=>[]
 | cons x k r=>x::(k.flat++r.flat)
def len:Tp→Nat
 | nil=>0
 | cons _ _ r=>r.len+1
def app:Tp→Tp→Tp
 | nil,b=>b
 | cons x k r,b=>cons x k (r.app b)
def sz:Tp→Nat
 | nil=>0
 | cons x k r=>k.sz+r.sz+1
def find (s:ByteArray):Tp→Option (Nd×Tp)
 | nil=>none
 | cons f kf r=>if f.s=s then some (f,kf)else r.find s
end Tp
theorem tp_app_len:∀a b:Tp,(a.app b).len=a.len+b.len
 | .nil,b=>by simp[Tp.app,Tp.len]
 | .cons x k r,b=>by simp[Tp.app,Tp.len,tp_app_len r b];omega
theorem tp_app_flat:∀a b:Tp,(a.app b).flat=a.flat++b.flat
 | .nil,b=>rfl
 | .cons x k r,b=>by simp[Tp.app,Tp.flat,tp_app_flat r b]
theorem tp_app_nil:∀a:Tp,a.app .nil=a
 | .nil=>rfl
 | .cons x k r=>by simp[Tp.app,tp_app_nil r]
theorem tp_app_assoc:∀a b c:Tp,(a.app b).app c=a.app (b.app c)
 | .nil,b,c=>rfl
 | .cons x k r,b,c=>by simp[Tp.app,tp_app_assoc r b c]
theorem tp_len_flat:∀t:Tp,t.len≤t.flat.length
 | .nil=>by simp[Tp.len]
 | .cons x k r=>by have:=tp_len_flat r;simp[Tp.len,Tp.flat];omega
theorem tp_sz_flat:∀t:Tp,t.sz=t.flat.length
 | .nil=>rfl
 | .cons x k r=>by simp[Tp.sz,Tp.flat,tp_sz_flat k,tp_sz_flat r]
theorem tp_len0:∀ {t:Tp},t.len=0→t= .nil
 | .nil,_=>rfl
 | .cons _ _ _,h=>by simp[Tp.len]at h
theorem tp_len1:∀ {t:Tp},t.len=1→∃x k,t= .cons x k .nil
 | .nil,h=>by simp[Tp.len]at h
 | .cons x k r,h=>⟨x,k,by rw[tp_len0 (t:=r) (by simpa[Tp.len]using h)]⟩
def e0:ByteArray:=⟨#[]⟩
def lfN (op:Int):Nd:=⟨op,0,e0,e0⟩
def fdN (s:ByteArray)(n:Int):Nd:=⟨47,n,s,e0⟩
def cntK (x:Nd):Int:=if x.op=5∨x.op=6∨x.op=46 then x.n else if x.op=7∨x.op=45∨x.op=47 then 1 else 0
def arK:Tp→Prop
 | .nil=>True
 | .cons x k r=>(cntK x).toNat=k.len∧arK k∧arK r
theorem arK_app:∀ {a b:Tp},arK (a.app b)↔arK a∧arK b
 | .nil,b=>by simp[Tp.app,arK]
 | .cons x k r,b=>by simp[Tp.app,arK,arK_app (a:=r) (b:=b),and_assoc]
theorem tp_flat_inj:∀(a b:Tp) (u v:List Nd),arK a→arK b→a.len=b.len→a.flat++u=b.flat++v→a=b∧u=v
 | .nil,.nil,u,v,_,_,_,h=>⟨rfl,by simpa[Tp.flat]using h⟩
 | .nil,.cons _ _ _,u,v,_,_,hl,_=>by simp[Tp.len]at hl
 | .cons _ _ _,.nil,u,v,_,_,hl,_=>by simp[Tp.len]at hl
 | .cons x k r,.cons y l s,u,v,⟨h1,h2,h3⟩,⟨k1,k2,k3⟩,hl,h=>by
   simp only[Tp.flat,List.cons_append,List.cons.injEq,List.append_assoc]at h
   obtain⟨rfl,h⟩:=h
   obtain⟨e1,hh⟩:=tp_flat_inj k l _ _ h2 k2 (by rw[←h1,←k1]) h
   obtain⟨e2,hz⟩:=tp_flat_inj r s _ _ h3 k3 (by simpa[Tp.len]using hl) hh
   subst e1 e2
   exact⟨rfl,hz⟩
theorem tp_split:∀(t:Tp) (n:Nat),n≤t.len→∃a b:Tp,t=a.app b∧a.len=n
 | t,0,_=>⟨.nil,t,rfl,rfl⟩
 | .nil,n+1,h=>by simp[Tp.len]at h
 | .cons x k r,n+1,h=>by
   obtain⟨a,b,h1,h2⟩:=tp_split r n (by simpa[Tp.len]using h)
   exact⟨.cons x k a,b,by rw[h1];rfl,by simp[Tp.len,h2]⟩
def isTy:Option ByteArray→Tp→Bool
 | _,.nil=>true
 | none,.cons x k r=>
   (decide (x.t=e0) && (if x.op=44 then decide (x.n=0) && (nfault x.s.data.toList == 0) && decide (k.len=0)
    else decide (x.s=e0) && (if x.op=45 then decide (x.n=0) && decide (k.len=1) && isTy none k
     else if x.op=46 then decide (0≤x.n) && decide ((k.len:Int)=x.n) && isTy (some e0) k
     else decide (x.n=0) && decide (x.op=41∨x.op=42∨x.op=43∨x.op=48∨x.op=49) && decide (k.len=0)))) && isTy none r
 | some l,.cons x k r=>
   (decide (x.op=47) && decide (x.n=0∨x.n=1) && decide (x.t=e0) && (nfault x.s.data.toList == 0) && decide (cmpB l x.s<0) && decide (k.len=1) && isTy none k) && isTy (some x.s) r
def T1 (t:Tp):Prop:=t.len=1∧isTy none t=true
def Fl (l:ByteArray)(t:Tp):Prop:=isTy (some l) t=true
theorem Fl.cons_iff {l:ByteArray}{f:Nd}{kf r:Tp}:Fl l (.cons f kf r)↔(f.op=47∧(f.n=0∨f.n=1)∧f.t=e0∧nfault f.s.data.toList=0∧cmpB l f.s<0)∧T1 kf∧Fl f.s r:=by
 unfold Fl T1
 rw[isTy]
 simp only[Bool.and_eq_true,decide_eq_true_eq,beq_iff_eq]
 constructor
 · rintro⟨⟨⟨⟨⟨⟨⟨a,b⟩,c⟩,d⟩,e⟩,f⟩,g⟩,h⟩;exact⟨⟨a,b,c,d,e⟩,⟨f,g⟩,h⟩
 · rintro⟨⟨a,b,c,d,e⟩,⟨f,g⟩,h⟩;exact⟨⟨⟨⟨⟨⟨⟨a,b⟩,c⟩,d⟩,e⟩,f⟩,g⟩,h⟩
inductive TyC:Nd→Tp→Prop
 | leaf (op:Int) (h:op=41∨op=42∨op=43∨op=48∨op=49):TyC (lfN op) .nil
 | ent (s:ByteArray) (h:nfault s.data.toList=0):TyC ⟨44,0,s,e0⟩ .nil
 | set (k:Tp) (h:T1 k):TyC (lfN 45) k
 | rcd (k:Tp) (h:Fl e0 k):TyC ⟨46,k.len,e0,e0⟩ k
theorem isTy_none_cons {x:Nd}{k r:Tp}:isTy none (.cons x k r)=true↔TyC x k∧isTy none r=true:=by
 obtain⟨xo,xn,xs,xt⟩:=x
 rw[isTy]
 simp only[Bool.and_eq_true]
 refine and_congr_left (fun _=>?_)
 simp only[decide_eq_true_eq]
 constructor
 · rintro⟨rfl,h⟩
   split at h
   · rename_i h44
     subst h44
     simp only[Bool.and_eq_true,decide_eq_true_eq,beq_iff_eq]at h
     obtain⟨⟨rfl,h1⟩,h2⟩:=h
     rw[tp_len0 h2]
     exact .ent xs h1
   · simp only[Bool.and_eq_true,decide_eq_true_eq]at h
     obtain⟨rfl,h⟩:=h
     split at h
     · rename_i h45
       subst h45
       simp only[Bool.and_eq_true,decide_eq_true_eq]at h
       obtain⟨⟨rfl,h1⟩,h2⟩:=h
       exact .set k ⟨h1,h2⟩
     · split at h
       · rename_i h46
         subst h46
         simp only[Bool.and_eq_true,decide_eq_true_eq]at h
         obtain⟨⟨h0,rfl⟩,h2⟩:=h
         exact .rcd k h2
       · simp only[Bool.and_eq_true,decide_eq_true_eq]at h
         obtain⟨⟨rfl,h1⟩,h2⟩:=h
         rw[tp_len0 h2]
         exact .leaf xo h1
 · intro h
   cases h with
   | leaf op h=>
     refine⟨rfl,?_⟩
     simp only[]
     rw[if_neg (by omega),if_neg (by omega),if_neg (by omega)]
     simp[Tp.len,h]
   | ent s h=>exact⟨rfl,by simp[Tp.len,h]⟩
   | set k h=>exact⟨rfl,by simp[h.1,h.2,e0]⟩
   | rcd k h=>
     have h:isTy (some e0) k=true:=h
     exact⟨rfl,by simp[h]⟩
theorem T1.iff {x:Nd}{k:Tp}:T1 (.cons x k .nil)↔TyC x k:=by
 unfold T1
 rw[isTy_none_cons]
 simp[Tp.len,isTy]
theorem T1.of {t:Tp}(h:T1 t):∃x k,t= .cons x k .nil∧TyC x k:=by
 obtain⟨x,k,rfl⟩:=tp_len1 h.1
 exact⟨x,k,rfl,T1.iff.1 h⟩
theorem TyC.nil {x:Nd}{k:Tp}(h:TyC x k)(a:x.op≠45)(b:x.op≠46):k= .nil:=by
 cases h with
 | leaf op h=>rfl
 | ent s h=>rfl
 | set k h=>exact absurd rfl a
 | rcd k h=>exact absurd rfl b
theorem isTy_ar:∀(t:Tp) (m:Option ByteArray),isTy m t=true→arK t
 | .nil,_,_=>trivial
 | .cons x k r,none,h=>by
   obtain⟨h1,h2⟩:=isTy_none_cons.1 h
   refine⟨?_,?_,isTy_ar r none h2⟩
   · cases h1 with
     | leaf op h=>unfold cntK lfN;simp only[];rw[if_neg (by omega),if_neg (by omega)];rfl
     | ent s h=>simp[cntK,Tp.len]
     | set k h=>simp[cntK,lfN,h.1]
     | rcd k h=>simp[cntK]
   · cases h1 with
     | leaf op h=>trivial
     | ent s h=>trivial
     | set k h=>exact isTy_ar k none h.2
     | rcd k hk=>exact isTy_ar k _ hk
 | .cons x k r,some l,h=>by
   obtain⟨⟨h1,_⟩,h2,h3⟩:=Fl.cons_iff.1 h
   exact⟨by simp[cntK,h1,h2.1],isTy_ar k none h2.2,isTy_ar r _ h3⟩
theorem find_name {s:ByteArray}:∀ {t:Tp} {f:Nd} {kf:Tp},t.find s=some (f,kf)→f.s=s
 | .nil,f,kf,h=>by simp[Tp.find]at h
 | .cons x k r,f,kf,h=>by
   rw[Tp.find]at h
   split at h
   · simp only[Option.some.injEq,Prod.mk.injEq]at h
     obtain⟨rfl,rfl⟩:=h
     assumption
   · exact find_name h
theorem find_sz {s:ByteArray}:∀ {t:Tp} {f:Nd} {kf:Tp},t.find s=some (f,kf)→kf.sz<t.sz
 | .nil,f,kf,h=>by simp[Tp.find]at h
 | .cons x k r,f,kf,h=>by
   rw[Tp.find]at h
   split at h
   · simp only[Option.some.injEq,Prod.mk.injEq]at h
     obtain⟨rfl,rfl⟩:=h
     simp[Tp.sz];omega
   · have:=find_sz h;simp[Tp.sz];omega
theorem Fl.find {s:ByteArray}:∀ {t:Tp} {l:ByteArray} {f:Nd} {kf:Tp},Fl l t→t.find s=some (f,kf)→f=fdN s f.n∧(f.n=0∨f.n=1)∧nfault s.data.toList=0∧cmpB l s<0∧T1 kf
 | .nil,l,f,kf,_,h=>by simp[Tp.find]at h
 | .cons x k r,l,f,kf,hl,h=>by
   obtain⟨⟨h1,h2,h3,h4,h5⟩,h6,h7⟩:=Fl.cons_iff.1 hl
   rw[Tp.find]at h
   split at h
   · rename_i hs
     simp only[Option.some.injEq,Prod.mk.injEq]at h
     obtain⟨rfl,rfl⟩:=h
     subst hs
     obtain⟨xo,xn,xs,xt⟩:=x
     simp only at h1 h3
     subst h1 h3
     exact⟨rfl,h2,h4,h5,h6⟩
   · obtain⟨a,b,c,d,e⟩:=Fl.find h7 h
     exact⟨a,b,c,cmpB_is.lt_le h5 (by omega),e⟩
theorem Fl.low {l:ByteArray}{t:Tp}(h:Fl l t){s:ByteArray}(hs:cmpB s l≤0):t.find s=none:=by
 cases e:t.find s with
 | none=>rfl
 | some p=>
   obtain⟨_,_,_,h1,_⟩:=h.find (f:=p.1) (kf:=p.2) e
   have:=cmpB_is.lt_le h1 hs
   rw[cmpB_is.self]at this
   omega
theorem Fl.find_tail {l:ByteArray}{f:Nd}{kf r:Tp}(h:Fl l (.cons f kf r)){s:ByteArray}{g:Nd}{kg:Tp}(hs:r.find s=some (g,kg)):(Tp.cons f kf r).find s=some (g,kg):=by
 obtain⟨_,_,h7⟩:=Fl.cons_iff.1 h
 rw[Tp.find,if_neg,hs]
 intro e
 rw[h7.low (by rw[e,cmpB_is.self];omega)]at hs
 cases hs
theorem Fl.find_head {f:Nd}{kf r:Tp}:(Tp.cons f kf r).find f.s=some (f,kf):=by rw[Tp.find,if_pos rfl]
theorem find_ne {f:Nd}{kf r:Tp}{s:ByteArray}(h:f.s≠s):(Tp.cons f kf r).find s=r.find s:=by rw[Tp.find,if_neg h]
theorem Fl.from {l l':ByteArray}{t:Tp}(h:Fl l t)(hl:cmpB l' l≤0):Fl l' t:=by
 cases t with
 | nil=>simp[Fl,isTy]
 | cons x k r=>
   obtain⟨⟨h1,h2,h3,h4,h5⟩,h6,h7⟩:=Fl.cons_iff.1 h
   exact Fl.cons_iff.2 ⟨⟨h1,h2,h3,h4,cmpB_is.le_lt hl h5⟩,h6,h7⟩
theorem Fl.ext:∀ {t u:Tp} {l m:ByteArray},Fl l t→Fl m u→(∀s,t.find s=u.find s)→t=u
 | .nil,.nil,_,_,_,_,_=>rfl
 | .nil,.cons y k r,l,m,_,_,h=>by have:=h y.s;rw[Fl.find_head]at this;simp[Tp.find]at this
 | .cons y k r,.nil,l,m,_,_,h=>by have:=h y.s;rw[Fl.find_head]at this;simp[Tp.find]at this
 | .cons x k r,.cons y k' r',l,m,ht,hu,h=>by
   obtain⟨_,_,h7⟩:=Fl.cons_iff.1 ht
   obtain⟨_,_,k7⟩:=Fl.cons_iff.1 hu
   have hxy:x.s=y.s:=by
    have a:=h x.s
    have b:=h y.s
    rw[Fl.find_head]at a b
    have a':=a.symm
    rw[Tp.find]at a' b
    by_cases e:y.s=x.s
    · exact e.symm
    · rw[if_neg e]at a'
      rw[if_neg (fun q=>e q.symm)]at b
      have p:=(k7.find a').2.2.2.1
      have q:=(h7.find b).2.2.2.1
      have:=cmpB_is.neg x.s y.s
      omega
   have a:=h x.s
   rw[Fl.find_head,hxy,Fl.find_head]at a
   simp only[Option.some.injEq,Prod.mk.injEq]at a
   obtain⟨rfl,rfl⟩:=a
   have:r=r':=Fl.ext h7 k7 (fun s=>by
    have:=h s
    rw[Tp.find,Tp.find]at this
    by_cases e:x.s=s
    · rw[h7.low (by rw[←e,cmpB_is.self];omega),k7.low (by rw[←e,cmpB_is.self];omega)]
    · rw[if_neg e,if_neg e]at this;exact this)
   rw[this]
def musts (k:Tp):Tp→Bool
 | .nil=>true
 | .cons f _ r=>(decide (f.n≠1) || (match k.find f.s with | some (g,_)=>decide (g.n=1) | none=>false)) && musts k r
theorem musts_iff {k:Tp}:∀ {l:ByteArray} {m:Tp},Fl l m→(musts k m=true↔∀s g kg,m.find s=some (g,kg)→g.n=1→∃f kf,k.find s=some (f,kf)∧f.n=1)
 | l,.nil,_=>by simp[musts,Tp.find]
 | l,.cons x kx r,h=>by
   obtain⟨_,_,h7⟩:=Fl.cons_iff.1 h
   rw[musts,Bool.and_eq_true,musts_iff h7]
   constructor
   · rintro⟨h1,h2⟩ s g kg hs hg
     rw[Tp.find]at hs
     split at hs
     · rename_i e
       simp only[Option.some.injEq,Prod.mk.injEq]at hs
       obtain⟨rfl,rfl⟩:=hs
       subst e
       simp only[Bool.or_eq_true,decide_eq_true_eq]at h1
       rcases h1 with h1 | h1
       · exact absurd hg h1
       · cases e:k.find x.s with
         | none=>rw[e]at h1;cases h1
         | some p=>rw[e]at h1;exact⟨p.1,p.2,rfl,by simpa using h1⟩
     · exact h2 s g kg hs hg
   · intro h1
     refine⟨?_,fun s g kg hs hg=>h1 s g kg (h.find_tail hs) hg⟩
     by_cases e:x.n=1
     · obtain⟨f,kf,h2,h3⟩:=h1 x.s x kx Fl.find_head e
       rw[h2]
       simp[h3]
     · simp[e]
def ndEq (x y:Nd):Bool:=decide (x.op=y.op∧x.n=y.n∧x.s=y.s∧x.t=y.t)
theorem ndEq_iff {x y:Nd}:ndEq x y=true↔x=y:=by
 obtain⟨a,b,c,d⟩:=x
 obtain⟨a',b',c',d'⟩:=y
 simp[ndEq]
def blw:Bool→Tp→Tp→Bool
 | _,.nil,_=>true
 | false,.cons x k _,u=>
   match u with
   | .nil=>false
   | .cons y l _=>if x.op=49∨y.op=48 then true else if x.op≠y.op then false else if x.op=45 then blw false k l else if x.op=46 then blw true k l && musts k l else ndEq x y
 | true,.cons f kf r,l=>(match l.find f.s with | some (_,kg)=>blw false kf kg | none=>false) && blw true r l
theorem blw_cons (x y:Nd)(k l r s:Tp):blw false (.cons x k r) (.cons y l s)=if x.op=49∨y.op=48 then true else if x.op≠y.op then false else if x.op=45 then blw false k l else if x.op=46 then blw true k l && musts k l else ndEq x y:=by rw[blw]
theorem blw_flds (f:Nd)(kf r l:Tp):blw true (.cons f kf r) l=((match l.find f.s with | some (_,kg)=>blw false kf kg | none=>false) && blw true r l):=by rw[blw]
theorem flds_iff {m:Tp}:∀ {l:ByteArray} {k:Tp},Fl l k→(blw true k m=true↔∀s f kf,k.find s=some (f,kf)→∃g kg,m.find s=some (g,kg)∧blw false kf kg=true)
 | l,.nil,_=>by simp[blw,Tp.find]
 | l,.cons x kx r,h=>by
   obtain⟨_,_,h7⟩:=Fl.cons_iff.1 h
   rw[blw_flds,Bool.and_eq_true,flds_iff h7]
   constructor
   · rintro⟨h1,h2⟩ s f kf hs
     rw[Tp.find]at hs
     split at hs
     · rename_i e
       simp only[Option.some.injEq,Prod.mk.injEq]at hs
       obtain⟨rfl,rfl⟩:=hs
       subst e
       cases e:m.find x.s with
       | none=>rw[e]at h1;cases h1
       | some p=>rw[e]at h1;exact⟨p.1,p.2,rfl,h1⟩
     · exact h2 s f kf hs
   · intro h1
     refine⟨?_,fun s g kg hs=>h1 s g kg (h.find_tail hs)⟩
     obtain⟨g,kg,h2,h3⟩:=h1 x.s x kx Fl.find_head
     rw[h2]
     exact h3
theorem blw_none {u:Tp}(h:T1 u)(k r:Tp):blw false (.cons (lfN 49) k r) u=true:=by
 obtain⟨y,l,rfl,_⟩:=h.of
 rw[blw_cons];simp[lfN]
theorem blw_top (t:Tp)(k r:Tp):blw false t (.cons (lfN 48) k r)=true:=by
 cases t with
 | nil=>rw[blw]
 | cons x k r=>rw[blw_cons];simp[lfN]
theorem blw_sets (k l:Tp):blw false (.cons (lfN 45) k .nil) (.cons (lfN 45) l .nil)=blw false k l:=by rw[blw_cons];simp[lfN]
theorem blw_rcds (k l:Tp)(m n:Int)(r s:Tp):blw false (.cons ⟨46,m,e0,e0⟩ k r) (.cons ⟨46,n,e0,e0⟩ l s)=(blw true k l && musts k l):=by rw[blw_cons];simp
theorem rcds_iff {k l:Tp}{a b:ByteArray}(hk:Fl a k)(hl:Fl b l):(blw true k l && musts k l)=true↔(∀s f kf,k.find s=some (f,kf)→∃g kg,l.find s=some (g,kg)∧blw false kf kg=true)∧(∀s g kg,l.find s=some (g,kg)→g.n=1→∃f kf,k.find s=some (f,kf)∧f.n=1):=by
 rw[Bool.and_eq_true,flds_iff hk,musts_iff hl]
theorem blw_ways {x y:Nd}{k l:Tp}(hx:TyC x k)(hy:TyC y l)(h:blw false (.cons x k .nil) (.cons y l .nil)=true):x=lfN 49∨y=lfN 48∨(x=y∧k= .nil∧l= .nil∧x.op≠45∧x.op≠46)∨(x=lfN 45∧y=lfN 45∧T1 k∧T1 l∧blw false k l=true)∨(x=⟨46,k.len,e0,e0⟩∧y=⟨46,l.len,e0,e0⟩∧Fl e0 k∧Fl e0 l∧(blw true k l && musts k l)=true):=by
 rw[blw_cons]at h
 by_cases c1:x.op=49
 · left;cases hx with
   | leaf op h=>simp only[lfN]at c1;subst c1;rfl
   | ent s h=>simp at c1
   | set k h=>simp[lfN]at c1
   | rcd k h=>simp at c1
 by_cases c2:y.op=48
 · right;left;cases hy with
   | leaf op h=>simp only[lfN]at c2;subst c2;rfl
   | ent s h=>simp at c2
   | set k h=>simp[lfN]at c2
   | rcd k h=>simp at c2
 rw[if_neg (by omega)]at h
 by_cases c3:x.op=y.op
 · rw[if_neg (by omega)]at h
   by_cases c4:x.op=45
   · rw[if_pos c4]at h
     right;right;right;left
     cases hx with
     | leaf op h=>simp only[lfN]at c4;omega
     | ent s h=>simp at c4
     | rcd k h=>simp at c4
     | set k hk=>
       cases hy with
       | leaf op h=>simp only[lfN]at c3;omega
       | ent s h=>simp[lfN]at c3
       | rcd k h=>simp[lfN]at c3
       | set l hl=>exact⟨rfl,rfl,hk,hl,h⟩
   · rw[if_neg c4]at h
     by_cases c5:x.op=46
     · rw[if_pos c5]at h
       right;right;right;right
       cases hx with
       | leaf op h=>simp only[lfN]at c5;omega
       | ent s h=>simp at c5
       | set k h=>simp[lfN]at c5
       | rcd k hk=>
         cases hy with
         | leaf op h=>simp only[lfN]at c3;omega
         | ent s h=>simp at c3
         | set k h=>simp[lfN]at c3
         | rcd l hl=>exact⟨rfl,rfl,hk,hl,h⟩
     · rw[if_neg c5]at h
       have:=ndEq_iff.1 h
       subst this
       right;right;left
       refine⟨rfl,?_,?_,c4,c5⟩
       · cases hx with
         | leaf op h=>rfl
         | ent s h=>rfl
         | set k h=>simp[lfN]at c4
         | rcd k h=>simp at c5
       · cases hy with
         | leaf op h=>rfl
         | ent s h=>rfl
         | set k h=>simp[lfN]at c4
         | rcd k h=>simp at c5
 · rw[if_pos c3]at h;cases h
theorem blw_refl:∀(n:Nat) (t:Tp),t.sz<n→T1 t→blw false t t=true
 | 0,t,h,_=>by omega
 | n+1,t,h,ht=>by
   obtain⟨x,k,rfl,hx⟩:=ht.of
   simp only[Tp.sz]at h
   cases hx with
   | leaf op ho=>
     rw[blw_cons]
     have e:(lfN op).op=op:=rfl
     by_cases c:(lfN op).op=49∨(lfN op).op=48
     · rw[if_pos c]
     · rw[if_neg c,if_neg (by simp),if_neg (by omega),if_neg (by omega)];exact ndEq_iff.2 rfl
   | ent s h=>rw[blw_cons];simp[ndEq]
   | set k hk=>rw[blw_sets];exact blw_refl n k (by omega) hk
   | rcd k hk=>
     rw[blw_rcds,rcds_iff hk hk]
     exact⟨fun s f kf hs=>⟨f,kf,hs,blw_refl n kf (by have:=find_sz hs;omega) (hk.find hs).2.2.2.2⟩,fun s g kg hs hg=>⟨g,kg,hs,hg⟩⟩
theorem blw_trans:∀(n:Nat) (a b c:Tp),a.sz<n→T1 a→T1 b→T1 c→blw false a b=true→blw false b c=true→blw false a c=true
 | 0,a,b,c,h,_,_,_,_,_=>by omega
 | n+1,a,b,c,h,ha,hb,hc,h1,h2=>by
   obtain⟨x,k,rfl,hx⟩:=ha.of
   obtain⟨y,l,rfl,hy⟩:=hb.of
   obtain⟨z,m,rfl,hz⟩:=hc.of
   simp only[Tp.sz]at h
   rcases blw_ways hx hy h1 with e | e | ⟨e,e2,e3,e4,e5⟩ | ⟨e,e2,e3,e4,e5⟩ | ⟨e,e2,e3,e4,e5⟩
   · subst e;exact blw_none hc _ _
   · subst e
     rcases blw_ways hy hz h2 with e | e | ⟨e,e2,e3,e4,e5⟩ | ⟨e,e2,e3,e4,e5⟩ | ⟨e,e2,e3,e4,e5⟩
     · simp[lfN]at e
     · subst e;exact blw_top _ _ _
     · subst e;exact blw_top _ _ _
     · simp[lfN]at e
     · simp[lfN]at e
   · subst e e2 e3;exact h2
   · subst e e2
     rcases blw_ways hy hz h2 with e | e | ⟨e,f2,f3,f4,f5⟩ | ⟨e,f2,f3,f4,f5⟩ | ⟨e,f2,f3,f4,f5⟩
     · simp[lfN]at e
     · subst e;exact blw_top _ _ _
     · simp[lfN]at f4
     · subst f2;rw[blw_sets];exact blw_trans n k l m (by omega) e3 e4 f4 e5 f5
     · simp[lfN]at e
   · rcases blw_ways hy hz h2 with g | g | ⟨g,f2,f3,f4,f5⟩ | ⟨g,f2,f3,f4,f5⟩ | ⟨g,f2,f3,f4,f5⟩
     · rw[g]at e2;simp[lfN]at e2
     · subst g;exact blw_top _ _ _
     · rw[e2]at f5;simp at f5
     · rw[g]at e2;simp[lfN]at e2
     · subst e f2
       rw[blw_rcds,rcds_iff e3 f4]
       rw[rcds_iff e3 e4]at e5
       rw[rcds_iff f3 f4]at f5
       refine⟨fun s f kf hs=>?_,fun s q kq hs hq=>?_⟩
       · obtain⟨p,kp,p1,p2⟩:=e5.1 s f kf hs
         obtain⟨q,kq,q1,q2⟩:=f5.1 s p kp p1
         exact⟨q,kq,q1,blw_trans n kf kp kq (by have:=find_sz hs;omega) (e3.find hs).2.2.2.2 (f3.find p1).2.2.2.2 (f4.find q1).2.2.2.2 p2 q2⟩
       · obtain⟨p,kp,p1,p2⟩:=f5.2 s q kq hs hq
         exact e5.2 s p kp p1 p2
theorem blw_anti:∀(n:Nat) (a b:Tp),a.sz<n→T1 a→T1 b→blw false a b=true→blw false b a=true→a=b
 | 0,a,b,h,_,_,_,_=>by omega
 | n+1,a,b,h,ha,hb,h1,h2=>by
   obtain⟨x,k,rfl,hx⟩:=ha.of
   obtain⟨y,l,rfl,hy⟩:=hb.of
   simp only[Tp.sz]at h
   have hl:∀ {x:Nd} {k:Tp},TyC x k→x.op≠45→x.op≠46→k= .nil:=fun h=>h.nil
   rcases blw_ways hx hy h1 with e | e | ⟨e,e2,e3,e4,e5⟩ | ⟨e,e2,e3,e4,e5⟩ | ⟨e,e2,e3,e4,e5⟩
   · subst e
     rcases blw_ways hy hx h2 with g | g | ⟨g,_⟩ | ⟨g,g2,_⟩ | ⟨g,g2,_⟩
     · subst g;rw[hl hx (by simp[lfN]) (by simp[lfN]),hl hy (by simp[lfN]) (by simp[lfN])]
     · simp[lfN]at g
     · subst g;rw[hl hx (by simp[lfN]) (by simp[lfN]),hl hy (by simp[lfN]) (by simp[lfN])]
     · simp[lfN]at g2
     · simp[lfN]at g2
   · subst e
     rcases blw_ways hy hx h2 with g | g | ⟨g,_⟩ | ⟨g,g2,_⟩ | ⟨g,g2,_⟩
     · simp[lfN]at g
     · subst g;rw[hl hx (by simp[lfN]) (by simp[lfN]),hl hy (by simp[lfN]) (by simp[lfN])]
     · subst g;rw[hl hx (by simp[lfN]) (by simp[lfN]),hl hy (by simp[lfN]) (by simp[lfN])]
     · simp[lfN]at g
     · simp[lfN]at g
   · subst e e2 e3;rfl
   · subst e e2
     rw[blw_sets]at h2
     rw[blw_anti n k l (by omega) e3 e4 e5 h2]
   · rw[e,e2,blw_rcds,rcds_iff e4 e3]at h2
     rw[rcds_iff e3 e4]at e5
     have:k=l:=Fl.ext e3 e4 (fun s=>by
      cases ek:k.find s with
      | none=>
        cases el:l.find s with
        | none=>rfl
        | some p=>obtain⟨q,kq,q1,_⟩:=h2.1 s p.1 p.2 el;rw[ek]at q1;cases q1
      | some p=>
        obtain⟨f,kf⟩:=p
        obtain⟨g,kg,g1,g2⟩:=e5.1 s f kf ek
        obtain⟨f',kf',f1,f2⟩:=h2.1 s g kg g1
        rw[ek]at f1
        simp only[Option.some.injEq,Prod.mk.injEq]at f1
        obtain⟨rfl,rfl⟩:=f1
        have hf:=e3.find ek
        have hg:=e4.find g1
        have e6:=blw_anti n kf kg (by have:=find_sz ek;omega) hf.2.2.2.2 hg.2.2.2.2 g2 f2
        subst e6
        have hn:f.n=g.n:=by
         rcases hf.2.1 with a | a
         · rcases hg.2.1 with b | b
           · rw[a,b]
           · obtain⟨f',kf',p1,p2⟩:=e5.2 s g kf g1 b
             rw[ek]at p1
             simp only[Option.some.injEq,Prod.mk.injEq]at p1
             rw[p1.1,p2,b]
         · obtain⟨f',kf',p1,p2⟩:=h2.2 s f kf ek a
           rw[g1]at p1
           simp only[Option.some.injEq,Prod.mk.injEq]at p1
           rw[p1.1,p2,a]
        rw[g1,hf.1,hg.1,hn])
     subst this
     rw[e,e2]
end Go.Proofs.YtjkepjbfgeldnaaGreatDoor
