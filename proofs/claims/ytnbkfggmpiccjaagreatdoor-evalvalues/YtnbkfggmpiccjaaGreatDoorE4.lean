import Derived.Test.YtnbkfggmpiccjaaGreatDoorE3
import Derived.Test.YtnbkfggmpiccjaaGreatDoorE2
import Derived.Below
set_option linter.unusedVariables false
set_option maxHeartbeats 12000000
namespace Go.Proofs.YtnbkfggmpiccjaaGreatDoor
structure Ui where
 t:ByteArray
 i:ByteArray
theorem Ui.ext' {a b:Ui}(h1:a.t=b.t)(h2:a.i=b.i):a=b:=by cases a;cases b;simp_all
instance:DecidableEq Ui:=fun a b=>
 if h1:a.t=b.t then
  if h2:a.i=b.i then isTrue (Ui.ext' h1 h2)else isFalse (fun e=>h2 (by rw[e]))
 else isFalse (fun e=>h1 (by rw[e]))
structure En where
 u:Ui
 up:List Ui
 nd:List Nd
instance:Inhabited Ui:=⟨⟨⟨#[]⟩,⟨#[]⟩⟩⟩
instance:Inhabited En:=⟨⟨default,[],[]⟩⟩
def uC (a b:Ui):Int:=uc a.t.data.toList a.i.data.toList b.t.data.toList b.i.data.toList
theorem uC_is:IsCmp uC where
 range a b:=uc_range _ _ _ _
 neg a b:=uc_neg _ _ _ _
 zero a b:=by
  unfold uC
  rw[uc_zero]
  exact⟨fun h=>Ui.ext' (bytes_inj h.1) (bytes_inj h.2),fun h=>by rw[h];exact⟨rfl,rfl⟩⟩
 trans a b c:=uc_trans _ _ _ _ _ _
def uf (u:Ui):Int:=ufault u.t.data.toList u.i.data.toList
def UOk (u:Ui):Prop:=u.t.size≤maxLen∧u.i.size≤maxLen
theorem uf_ok {u:Ui}(h:uf u=0):UOk u:=by
 have:=ufault_small h
 simp at this
 unfold UOk maxLen;omega
def upf (seen:List Ui):List Ui→Int
 | []=>0
 | x::r=>if uf x=0 then(if x∈seen then 6 else upf (seen++[x]) r)else uf x
def afault (l:List Nd):Int:=if vfault l=0 then(match l with | x::_=>if x.op=6 then 0 else 2 | []=>0)else vfault l
def ffup (l:List Ui):Int:=if 6<l.length then 4 else upf [] l
def efault (e:En):Int:=if ffup e.up=0 then afault e.nd else ffup e.up
def lfault (seen:List Ui):List En→Int
 | []=>0
 | e::r=>if uf e.u=0 then(if e.u∈seen then 6 else if efault e=0 then lfault (seen++[e.u]) r else efault e)else uf e.u
def upsOf (es:List En)(u:Ui):List Ui:=match es.find? (fun e=>decide (e.u=u))with | some e=>e.up | none=>[]
inductive Abv (es:List En):Ui→Ui→Prop
 | one {a b:Ui}:b∈upsOf es a→Abv es a b
 | more {a b c:Ui}:b∈upsOf es a→Abv es b c→Abv es a c
def Cyc (es:List En):Prop:=∃e∈es,Abv es e.u e.u
open Classical in
noncomputable def stf (es:List En):Int:=if 16<es.length then 4 else if lfault [] es=0 then(if Cyc es then 7 else 0)else lfault [] es
theorem Abv.trans {es:List En}{a b c:Ui}(h:Abv es a b)(k:Abv es b c):Abv es a c:=by
 induction h with
 | one h=>exact .more h k
 | more h _ ih=>exact .more h (ih k)
theorem upsOf_mem {es:List En}{a b:Ui}(h:b∈upsOf es a):∃e∈es,e.u=a∧e.up=upsOf es a:=by
 unfold upsOf at h ⊢
 cases hf:es.find? (fun e=>decide (e.u=a))with
 | none=>rw[hf]at h;cases h
 | some e=>exact⟨e,List.mem_of_find?_eq_some hf,by simpa using List.find?_some hf,rfl⟩
theorem abv_closed {es:List En}{a:Ui}{L:List Ui}(h0:∀x∈upsOf es a,x∈L)(hc:∀v∈L,∀x∈upsOf es v,x∈L){b:Ui}(h:Abv es a b):b∈L:=by
 induction h with
 | one h=>exact h0 _ h
 | more h _ ih=>exact ih (hc _ (h0 _ h))
def Uniq (es:List En):Prop:=es.Pairwise (fun a b=>a.u≠b.u)
theorem upsOf_of_mem {es:List En}(hu:Uniq es){e:En}(he:e∈es):upsOf es e.u=e.up:=by
 induction es with
 | nil=>cases he
 | cons x r ih=>
   obtain⟨h1,h2⟩:=List.pairwise_cons.1 hu
   rcases List.mem_cons.1 he with rfl | hr
   · simp[upsOf]
   · have hne:¬x.u=e.u:=h1 e hr
     have:=ih h2 hr
     unfold upsOf at this ⊢
     rw[List.find?_cons_of_neg (by simpa using hne)]
     exact this
theorem upsOf_none {es:List En}{u:Ui}(h:∀e∈es,e.u≠u):upsOf es u=[]:=by
 unfold upsOf
 rw[List.find?_eq_none.2 (fun e he=>by simpa using h e he)]
theorem upf_zero:∀(seen l:List Ui),upf seen l=0→∀x∈l,uf x=0
 | _,[],_,x,hx=>by cases hx
 | seen,y::r,h,x,hx=>by
   unfold upf at h
   by_cases h1:uf y=0
   · rw[if_pos h1]at h
     by_cases h2:y∈seen
     · rw[if_pos h2]at h;cases h
     · rw[if_neg h2]at h
       rcases List.mem_cons.1 hx with rfl | hx
       · exact h1
       · exact upf_zero _ r h x hx
   · rw[if_neg h1]at h;exact absurd h h1
theorem ffup_zero {l:List Ui}(h:ffup l=0):l.length≤6∧∀x∈l,uf x=0:=by
 unfold ffup at h
 by_cases h1:6<l.length
 · rw[if_pos h1]at h;cases h
 · rw[if_neg h1]at h;exact⟨by omega,upf_zero _ _ h⟩
theorem efault_zero {e:En}(h:efault e=0):ffup e.up=0∧afault e.nd=0:=by
 unfold efault at h
 by_cases h1:ffup e.up=0
 · rw[if_pos h1]at h;exact⟨h1,h⟩
 · rw[if_neg h1]at h;exact absurd h h1
theorem lfault_zero:∀(seen:List Ui) (es:List En),lfault seen es=0→(∀e∈es,uf e.u=0∧e.u∉seen∧efault e=0)∧Uniq es
 | _,[],_=>⟨fun e he=>by(cases he),List.Pairwise.nil⟩
 | seen,x::r,h=>by
   unfold lfault at h
   by_cases h1:uf x.u=0
   · rw[if_pos h1]at h
     by_cases h2:x.u∈seen
     · rw[if_pos h2]at h;cases h
     · rw[if_neg h2]at h
       by_cases h3:efault x=0
       · rw[if_pos h3]at h
         obtain⟨i1,i2⟩:=lfault_zero (seen++[x.u]) r h
         refine⟨fun e he=>?_,List.pairwise_cons.2 ⟨fun e he q=>(i1 e he).2.1 (by simp[q]),i2⟩⟩
         rcases List.mem_cons.1 he with rfl | he
         · exact⟨h1,h2,h3⟩
         · obtain⟨j1,j2,j3⟩:=i1 e he
           exact⟨j1,fun q=>j2 (by simp[q]),j3⟩
       · rw[if_neg h3]at h;exact absurd h h3
   · rw[if_neg h1]at h;exact absurd h h1
structure Good (es:List En):Prop where
 few:es.length≤16
 uniq:Uniq es
 uids:∀e∈es,uf e.u=0
 ups:∀e∈es,e.up.length≤6∧∀x∈e.up,uf x=0
 cyc:¬Cyc es
theorem stf_zero {es:List En}(h:stf es=0):Good es:=by
 unfold stf at h
 by_cases h1:16<es.length
 · rw[if_pos h1]at h;cases h
 · rw[if_neg h1]at h
   by_cases h2:lfault [] es=0
   · rw[if_pos h2]at h
     by_cases h3:Cyc es
     · rw[if_pos h3]at h;cases h
     · obtain⟨i1,i2⟩:=lfault_zero _ _ h2
       exact⟨by omega,i2,fun e he=>(i1 e he).1,fun e he=>ffup_zero (efault_zero (i1 e he).2.2).1,h3⟩
   · rw[if_neg h2]at h;exact absurd h h2
def Inn (es:List En)(a b:Ui):Prop:=a=b∨Abv es a b
structure Rq where
 who:Ui
 act:Ui
 what:Ui
 cx:List Nd
def askf (q:Rq):Int:=if uf q.who=0 then(if uf q.act=0 then(if uf q.what=0 then afault q.cx else uf q.what)else uf q.act)else uf q.who
def AbvN (es:List En):Nat→Ui→Ui→Prop
 | 0,_,_=>False
 | n+1,a,b=>∃x,(x=a∨AbvN es n a x)∧b∈upsOf es x
theorem abvN_succ {es:List En}:∀ {n:Nat} {a b:Ui},AbvN es n a b→AbvN es (n+1) a b
 | 0,_,_,h=>h.elim
 | n+1,a,b,⟨x,hx,hb⟩=>⟨x,hx.imp id abvN_succ,hb⟩
theorem abvN_mono {es:List En}{n m:Nat}(h:n≤m){a b:Ui}(k:AbvN es n a b):AbvN es m a b:=by
 induction h with
 | refl=>exact k
 | step _ ih=>exact abvN_succ ih
theorem abvN_abv {es:List En}:∀ {n:Nat} {a b:Ui},AbvN es n a b→Abv es a b
 | 0,_,_,h=>h.elim
 | n+1,a,b,⟨x,hx,hb⟩=>by
   rcases hx with rfl | hx
   · exact .one hb
   · exact(abvN_abv hx).trans (.one hb)
theorem abvN_cons {es:List En}{a b:Ui}(hb:b∈upsOf es a):∀ {n:Nat} {c:Ui},AbvN es n b c→AbvN es (n+1) a c
 | 0,_,h=>h.elim
 | n+1,c,⟨x,hx,hc⟩=>by
   refine⟨x,.inr ?_,hc⟩
   rcases hx with rfl | hx
   · exact⟨a,.inl rfl,hb⟩
   · exact abvN_cons hb hx
theorem abv_abvN {es:List En}{a b:Ui}(h:Abv es a b):∃n,AbvN es n a b:=by
 induction h with
 | one h=>exact⟨1,_,.inl rfl,h⟩
 | more h _ ih=>obtain⟨n,hn⟩:=ih;exact⟨n+1,abvN_cons h hn⟩
theorem countP_same {α :Type}{p q: α →Bool}:∀(l:List α),(∀x∈l,p x=true→q x=true)→l.countP q≤l.countP p→∀x∈l,q x=true→p x=true
 | [],_,_,x,hx,_=>by cases hx
 | y::l,hm,hc,x,hx,hq=>by
   have hle:l.countP p≤l.countP q:=List.countP_mono_left (fun z hz=>hm z (by simp[hz]))
   rw[List.countP_cons,List.countP_cons]at hc
   have hy:=hm y (by simp)
   cases hpy:p y<;>cases hqy:q y<;>simp[hpy,hqy]at hc hy
   · rcases List.mem_cons.1 hx with rfl | hx
     · rw[hqy]at hq;cases hq
     · exact countP_same l (fun z hz=>hm z (by simp[hz])) hc x hx hq
   · omega
   · rcases List.mem_cons.1 hx with rfl | hx
     · exact hpy
     · exact countP_same l (fun z hz=>hm z (by simp[hz])) hc x hx hq
theorem stalls (f:Nat→Nat)(n:Nat)(h0:1≤f 0)(hn:f n≤n):∃s,s<n∧f (s+1)≤f s:=by
 rcases Classical.em (∃s,s<n∧f (s+1)≤f s)with h | h
 · exact h
 · exfalso
   have hs:∀s,s≤n→s+1≤f s:=by
    intro s
    induction s with
    | zero=>intro _;exact h0
    | succ s ih=>
      intro hle
      have h1:=ih (by omega)
      have h2:¬f (s+1)≤f s:=fun q=>h ⟨s,by omega,q⟩
      omega
   have:=hs n (Nat.le_refl _)
   omega
def ClosedAt (es:List En)(s:Nat)(a:Ui):Prop:=∀x v,(x=a∨AbvN es s a x)→v∈upsOf es x→AbvN es s a v
theorem ClosedAt.all {es:List En}{s:Nat}{a:Ui}(h:ClosedAt es s a):∀(m:Nat) (b:Ui),AbvN es m a b→AbvN es s a b
 | 0,_,k=>k.elim
 | m+1,b,⟨x,hx,hb⟩=>h x b (hx.imp id (h.all m x)) hb
open Classical in
theorem closed_at (es:List En)(a:Ui):∃s,s≤es.length∧ClosedAt es s a:=by
 rcases Classical.em (∃e∈es,e.u=a)with ha | ha
 · obtain⟨e0,he0,hea⟩:=ha
   let p:Nat→En→Bool:=fun s e=>decide (e.u=a∨AbvN es s a e.u)
   have hp0:1≤es.countP (p 0):=List.countP_pos_iff.2 ⟨e0,he0,by simp[p,hea]⟩
   obtain⟨s,hs,hle⟩:=stalls (fun s=>es.countP (p s)) es.length hp0 List.countP_le_length
   refine⟨s+1,hs,fun x v hx hv=>?_⟩
   obtain⟨e,he,rfl,_⟩:=upsOf_mem hv
   have hq:=countP_same (p:=p s) (q:=p (s+1)) es (fun z _ hz=>by
    simp only[p,decide_eq_true_eq]at hz ⊢
    exact hz.imp id abvN_succ) hle e he (by simp only[p,decide_eq_true_eq];exact hx)
   simp only[p,decide_eq_true_eq]at hq
   exact⟨e.u,hq,hv⟩
 · refine⟨0,Nat.zero_le _,fun x v hx hv=>?_⟩
   rcases hx with rfl | hx
   · obtain⟨e,he,h1,_⟩:=upsOf_mem hv
     exact absurd ⟨e,he,h1⟩ ha
   · exact hx.elim
theorem abv_iff (es:List En)(a b:Ui):Abv es a b↔AbvN es es.length a b:=by
 constructor
 · intro h
   obtain⟨n,hn⟩:=abv_abvN h
   obtain⟨s,hs,hc⟩:=closed_at es a
   exact abvN_mono hs (hc.all n b hn)
 · exact abvN_abv
end Go.Proofs.YtnbkfggmpiccjaaGreatDoor
