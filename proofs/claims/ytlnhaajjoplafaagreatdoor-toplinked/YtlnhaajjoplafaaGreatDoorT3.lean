import Derived.Test.YtlnhaajjoplafaaGreatDoorT2
import Derived.Test.YtlnhaajjoplafaaGreatDoorT1
import Derived.Below
set_option linter.unusedVariables false
set_option maxHeartbeats 12000000
namespace Go.Proofs.YtlnhaajjoplafaaGreatDoor
structure Ui where
 t:ByteArray
 i:ByteArray
theorem Ui.ext' {a b:Ui}(h1:a.t=b.t)(h2:a.i=b.i):a=b:=by cases a;cases b;simp_all
instance:DecidableEq Ui:=fun a b=>
 if h1:a.t=b.t then
  if h2:a.i=b.i then isTrue (Ui.ext' h1 h2)else isFalse (fun e=>h2 (by rw[e]))
 else isFalse (fun e=>h1 (by rw[e]))
structure En where
 u:Ui
 up:List Ui
 nd:List Nd
instance:Inhabited Ui:=⟨⟨⟨#[]⟩,⟨#[]⟩⟩⟩
instance:Inhabited En:=⟨⟨default,[],[]⟩⟩
def uC (a b:Ui):Int:=uc a.t.data.toList a.i.data.toList b.t.data.toList b.i.data.toList
theorem uC_is:IsCmp uC where
 range a b:=uc_range _ _ _ _
 neg a b:=uc_neg _ _ _ _
 zero a b:=by
  unfold uC
  rw[uc_zero]
  exact⟨fun h=>Ui.ext' (bytes_inj h.1) (bytes_inj h.2),fun h=>by rw[h];exact⟨rfl,rfl⟩⟩
 trans a b c:=uc_trans _ _ _ _ _ _
def uf (u:Ui):Int:=ufault u.t.data.toList u.i.data.toList
def UOk (u:Ui):Prop:=u.t.size≤maxLen∧u.i.size≤maxLen
theorem uf_ok {u:Ui}(h:uf u=0):UOk u:=by
 have:=ufault_small h
 simp at this
 unfold UOk maxLen;omega
def upf (seen:List Ui):List Ui→Int
 | []=>0
 | x::r=>if uf x=0 then(if x∈seen then 6 else upf (seen++[x]) r)else uf x
def afault (l:List Nd):Int:=if vfault l=0 then(match l with | x::_=>if x.op=6 then 0 else 2 | []=>0)else vfault l
def ffup (l:List Ui):Int:=if 6<l.length then 4 else upf [] l
def efault (e:En):Int:=if ffup e.up=0 then afault e.nd else ffup e.up
def lfault (seen:List Ui):List En→Int
 | []=>0
 | e::r=>if uf e.u=0 then(if e.u∈seen then 6 else if efault e=0 then lfault (seen++[e.u]) r else efault e)else uf e.u
def upsOf (es:List En)(u:Ui):List Ui:=match es.find? (fun e=>decide (e.u=u))with | some e=>e.up | none=>[]
inductive Abv (es:List En):Ui→Ui→Prop
 | one {a b:Ui}:b∈upsOf es a→Abv es a b
 | more {a b c:Ui}:b∈upsOf es a→Abv es b c→Abv es a c
def Cyc (es:List En):Prop:=∃e∈es,Abv es e.u e.u
open Classical in
noncomputable def stf (es:List En):Int:=if 16<es.length then 4 else if lfault [] es=0 then(if Cyc es then 7 else 0)else lfault [] es
theorem Abv.trans {es:List En}{a b c:Ui}(h:Abv es a b)(k:Abv es b c):Abv es a c:=by
 induction h with
 | one h=>exact .more h k
 | more h _ ih=>exact .more h (ih k)
theorem upsOf_mem {es:List En}{a b:Ui}(h:b∈upsOf es a):∃e∈es,e.u=a∧e.up=upsOf es a:=by
 unfold upsOf at h ⊢
 cases hf:es.find? (fun e=>decide (e.u=a))with
 | none=>rw[hf]at h;cases h
 | some e=>exact⟨e,List.mem_of_find?_eq_some hf,by simpa using List.find?_some hf,rfl⟩
theorem Abv.from {es:List En}{a b:Ui}(h:Abv es a b):∃e∈es,e.u=a:=by
 cases h with
 | one h=>obtain⟨e,h1,h2,_⟩:=upsOf_mem h;exact⟨e,h1,h2⟩
 | more h _=>obtain⟨e,h1,h2,_⟩:=upsOf_mem h;exact⟨e,h1,h2⟩
theorem Abv.steps {es:List En}{a b:Ui}:Abv es a b↔∃x∈upsOf es a,x=b∨Abv es x b:=by
 constructor
 · intro h
   cases h with
   | one h=>exact⟨b,h,.inl rfl⟩
   | more h k=>exact⟨_,h,.inr k⟩
 · rintro⟨x,hx,rfl | h⟩
   · exact .one hx
   · exact .more hx h
theorem abv_anti {es:List En}(hc:¬Cyc es){a b:Ui}(h:Abv es a b)(k:Abv es b a):False:=by
 obtain⟨e,he,rfl⟩:=h.from
 exact hc ⟨e,he,h.trans k⟩
theorem abv_closed {es:List En}{a:Ui}{L:List Ui}(h0:∀x∈upsOf es a,x∈L)(hc:∀v∈L,∀x∈upsOf es v,x∈L){b:Ui}(h:Abv es a b):b∈L:=by
 induction h with
 | one h=>exact h0 _ h
 | more h _ ih=>exact ih (hc _ (h0 _ h))
def Uniq (es:List En):Prop:=es.Pairwise (fun a b=>a.u≠b.u)
theorem upsOf_of_mem {es:List En}(hu:Uniq es){e:En}(he:e∈es):upsOf es e.u=e.up:=by
 induction es with
 | nil=>cases he
 | cons x r ih=>
   obtain⟨h1,h2⟩:=List.pairwise_cons.1 hu
   rcases List.mem_cons.1 he with rfl | hr
   · simp[upsOf]
   · have hne:¬x.u=e.u:=h1 e hr
     have:=ih h2 hr
     unfold upsOf at this ⊢
     rw[List.find?_cons_of_neg (by simpa using hne)]
     exact this
theorem upsOf_none {es:List En}{u:Ui}(h:∀e∈es,e.u≠u):upsOf es u=[]:=by
 unfold upsOf
 rw[List.find?_eq_none.2 (fun e he=>by simpa using h e he)]
theorem upf_zero:∀(seen l:List Ui),upf seen l=0→∀x∈l,uf x=0
 | _,[],_,x,hx=>by cases hx
 | seen,y::r,h,x,hx=>by
   unfold upf at h
   by_cases h1:uf y=0
   · rw[if_pos h1]at h
     by_cases h2:y∈seen
     · rw[if_pos h2]at h;cases h
     · rw[if_neg h2]at h
       rcases List.mem_cons.1 hx with rfl | hx
       · exact h1
       · exact upf_zero _ r h x hx
   · rw[if_neg h1]at h;exact absurd h h1
theorem ffup_zero {l:List Ui}(h:ffup l=0):l.length≤6∧∀x∈l,uf x=0:=by
 unfold ffup at h
 by_cases h1:6<l.length
 · rw[if_pos h1]at h;cases h
 · rw[if_neg h1]at h;exact⟨by omega,upf_zero _ _ h⟩
theorem efault_zero {e:En}(h:efault e=0):ffup e.up=0∧afault e.nd=0:=by
 unfold efault at h
 by_cases h1:ffup e.up=0
 · rw[if_pos h1]at h;exact⟨h1,h⟩
 · rw[if_neg h1]at h;exact absurd h h1
theorem lfault_zero:∀(seen:List Ui) (es:List En),lfault seen es=0→(∀e∈es,uf e.u=0∧e.u∉seen∧efault e=0)∧Uniq es
 | _,[],_=>⟨fun e he=>by(cases he),List.Pairwise.nil⟩
 | seen,x::r,h=>by
   unfold lfault at h
   by_cases h1:uf x.u=0
   · rw[if_pos h1]at h
     by_cases h2:x.u∈seen
     · rw[if_pos h2]at h;cases h
     · rw[if_neg h2]at h
       by_cases h3:efault x=0
       · rw[if_pos h3]at h
         obtain⟨i1,i2⟩:=lfault_zero (seen++[x.u]) r h
         refine⟨fun e he=>?_,List.pairwise_cons.2 ⟨fun e he q=>(i1 e he).2.1 (by simp[q]),i2⟩⟩
         rcases List.mem_cons.1 he with rfl | he
         · exact⟨h1,h2,h3⟩
         · obtain⟨j1,j2,j3⟩:=i1 e he
           exact⟨j1,fun q=>j2 (by simp[q]),j3⟩
       · rw[if_neg h3]at h;exact absurd h h3
   · rw[if_neg h1]at h;exact absurd h h1
structure Good (es:List En):Prop where
 few:es.length≤16
 uniq:Uniq es
 uids:∀e∈es,uf e.u=0
 ups:∀e∈es,e.up.length≤6∧∀x∈e.up,uf x=0
 cyc:¬Cyc es
theorem stf_zero {es:List En}(h:stf es=0):Good es:=by
 unfold stf at h
 by_cases h1:16<es.length
 · rw[if_pos h1]at h;cases h
 · rw[if_neg h1]at h
   by_cases h2:lfault [] es=0
   · rw[if_pos h2]at h
     by_cases h3:Cyc es
     · rw[if_pos h3]at h;cases h
     · obtain⟨i1,i2⟩:=lfault_zero _ _ h2
       exact⟨by omega,i2,fun e he=>(i1 e he).1,fun e he=>ffup_zero (efault_zero (i1 e he).2.2).1,h3⟩
   · rw[if_neg h2]at h;exact absurd h h2
def Inn (es:List En)(a b:Ui):Prop:=a=b∨Abv es a b
theorem abv_leaf {es:List En}{x:En}(hx:∀e∈es,e.u≠x.u)(hn:∀e∈es,x.u∉e.up){a:Ui}(ha:a≠x.u){b:Ui}:Abv (es++[x]) a b↔Abv es a b:=by
 have hups:∀a,a≠x.u→upsOf (es++[x]) a=upsOf es a:=by
  intro a ha
  unfold upsOf
  rw[List.find?_append]
  cases hf:es.find? (fun e=>decide (e.u=a))with
  | some e=>rfl
  | none=>simp[Ne.symm ha]
 have hne:∀a y,y∈upsOf es a→y≠x.u:=by
  intro a y hy e
  obtain⟨e',h1,_,h3⟩:=upsOf_mem hy
  exact hn e' h1 (by rw[h3,←e];exact hy)
 constructor
 · intro h
   induction h with
   | one h=>rw[hups _ ha]at h;exact .one h
   | more h _ ih=>rw[hups _ ha]at h;exact .more h (ih (hne _ _ h))
 · intro h
   induction h with
   | one h=>exact .one (by rw[hups _ ha];exact h)
   | more h _ ih=>exact .more (by rw[hups _ ha];exact h) (ih (hne _ _ h))
structure Sco where
 op:Int
 ty:ByteArray
 u:Ui
structure Cnd where
 un:Bool
 ex:List Nd
structure Po where
 nm:ByteArray
 fb:Bool
 who:Sco
 act:Sco
 what:Sco
 cs:List Cnd
def eB:ByteArray:=⟨#[]⟩
def eU:Ui:=⟨eB,eB⟩
def okN (s:ByteArray):Bool:=nfault s.data.toList == 0
def okU (u:Ui):Bool:=uf u == 0
def scOk (slot:Bool)(s:Sco):Bool:=
 if s.op=0 then decide (s.ty=eB) && decide (s.u=eU)
 else if s.op=1∨s.op=2 then decide (s.ty=eB) && okU s.u
 else if s.op=3 then okN s.ty && decide (s.u=eU)
 else if s.op=4 then okN s.ty && okU s.u
 else if s.op=5∨s.op=6 then slot && (decide (s.ty=eB) && decide (s.u=eU))
 else false
def isQ (s:ByteArray):Bool:=decide (s.data.toList.head? =some 63)
def cdf (c:Cnd):Int:=if xfault c.ex=0 then(if (nms c.ex).any isQ then 1 else 0)else xfault c.ex
def csf:List Cnd→Int
 | []=>0
 | c::r=>if cdf c=0 then csf r else cdf c
def pof (p:Po):Int:=
 if nfault p.nm.data.toList=0 then
  (if scOk true p.who && scOk false p.act && scOk true p.what then(if 4<p.cs.length then 4 else csf p.cs)else 1)
 else nfault p.nm.data.toList
theorem nfault_ne {l:List UInt8}:nfault l=0∨nfault l=1∨nfault l=4:=by
 unfold nfault
 split
 · split
   · exact .inr (.inr rfl)
   · exact .inl rfl
 · exact .inr (.inl rfl)
theorem csf_zero:∀ {l:List Cnd},csf l=0→∀c∈l,cdf c=0
 | [],_,c,h=>by cases h
 | d::r,h0,c,h=>by
   unfold csf at h0
   by_cases hd:cdf d=0
   · rw[if_pos hd]at h0
     rcases List.mem_cons.1 h with rfl | h
     · exact hd
     · exact csf_zero h0 c h
   · rw[if_neg hd]at h0;exact absurd h0 hd
theorem csf_ok:∀ {l:List Cnd},(∀c∈l,cdf c=0)→csf l=0
 | [],_=>rfl
 | d::r,h=>by
   unfold csf
   rw[if_pos (h d (by simp))]
   exact csf_ok (fun c hc=>h c (by simp[hc]))
theorem csf_cons (d:Cnd)(r:List Cnd):csf (d::r)=if cdf d=0 then csf r else cdf d:=rfl
theorem csf_app:∀(a b:List Cnd),csf (a++b)=if csf a=0 then csf b else csf a
 | [],b=>by rw[List.nil_append];exact(if_pos rfl).symm
 | d::r,b=>by
   rw[List.cons_append,csf_cons,csf_cons]
   by_cases hd:cdf d=0
   · rw[if_pos hd,if_pos hd];exact csf_app r b
   · rw[if_neg hd,if_neg hd,if_neg hd]
theorem cdf_zero {c:Cnd}(h:cdf c=0):xfault c.ex=0∧(nms c.ex).any isQ=false:=by
 unfold cdf at h
 by_cases h1:xfault c.ex=0
 · rw[if_pos h1]at h
   refine⟨h1,?_⟩
   cases h2:(nms c.ex).any isQ
   · rfl
   · rw[h2]at h;cases h
 · rw[if_neg h1]at h;exact absurd h h1
theorem pof_ways {p:Po}(h:pof p=0):nfault p.nm.data.toList=0∧scOk true p.who=true∧scOk false p.act=true∧scOk true p.what=true∧p.cs.length≤4∧csf p.cs=0:=by
 unfold pof at h
 by_cases h1:nfault p.nm.data.toList=0
 · rw[if_pos h1]at h
   by_cases h2:(scOk true p.who && scOk false p.act && scOk true p.what)=true
   · rw[if_pos h2]at h
     simp only[Bool.and_eq_true]at h2
     by_cases h3:4<p.cs.length
     · rw[if_pos h3]at h;cases h
     · rw[if_neg h3]at h
       exact⟨h1,h2.1.1,h2.1.2,h2.2,by omega,h⟩
   · rw[if_neg h2]at h;cases h
 · rw[if_neg h1]at h;exact absurd h h1
def nO (op:Int):Nd:=⟨op,0,eB,eB⟩
def nSy (op:Int)(s:ByteArray):Nd:=⟨op,0,s,eB⟩
def nEn (u:Ui):Nd:=⟨4,0,u.t,u.i⟩
def nTr:Nd:=⟨1,1,eB,eB⟩
def qv (v:ByteArray):ByteArray:=⟨#[63]⟩++v
def scE (v:ByteArray)(s:Sco):List Nd:=
 if s.op=1 then[nO 14,nSy 8 v,nEn s.u]
 else if s.op=2 then[nO 20,nSy 8 v,nEn s.u]
 else if s.op=3 then[nSy 24 s.ty,nSy 8 v]
 else if s.op=4 then[nO 11,nSy 24 s.ty,nSy 8 v,nO 20,nSy 8 v,nEn s.u]
 else if s.op=5 then[nO 14,nSy 8 v,nSy 8 (qv v)]
 else if s.op=6 then[nO 20,nSy 8 v,nSy 8 (qv v)]
 else[nTr]
theorem scE_len (v:ByteArray)(s:Sco):(scE v s).length≤6∧1≤(scE v s).length:=by
 unfold scE
 repeat' split
 all_goals exact⟨by simp,by simp⟩
def cdE (c:Cnd):List Nd:=if c.un then nO 9::c.ex else c.ex
def sPrin:ByteArray:=⟨#[112,114,105,110,99,105,112,97,108]⟩
def sAct:ByteArray:=⟨#[97,99,116,105,111,110]⟩
def sRes:ByteArray:=⟨#[114,101,115,111,117,114,99,101]⟩
def poP (p:Po):List (List Nd):=scE sPrin p.who::scE sAct p.act::scE sRes p.what::p.cs.map cdE
def andsL (n:Nat)(l:List (List Nd)):List Nd:=List.replicate n (nO 11)++l.flatten
def poE (p:Po):List Nd:=andsL (2+p.cs.length) (poP p)
theorem andsL_snoc (n:Nat)(l:List (List Nd))(x:List Nd):andsL (n+1) (l++[x])=nO 11::(andsL n l++x):=by
 unfold andsL
 rw[List.replicate_succ]
 simp
def exprL (p:Po):Except Int (List Nd):=if pof p=0 then(if (poE p).length≤200 then .ok (poE p)else .error 4)else .error (pof p)
theorem cdE_len (c:Cnd)(h:xfault c.ex=0):(cdE c).length≤201∧1≤(cdE c).length:=by
 have h2:=xfault_zero h
 have h3:1≤c.ex.length:=by
  cases hc:c.ex with
  | nil=>rw[hc]at h2;simp[pastE]at h2
  | cons x r=>simp
 unfold cdE
 split
 · simp;omega
 · omega
theorem flatten_len:∀(l:List (List Nd)) (n:Nat),(∀x∈l,x.length≤n)→l.flatten.length≤l.length*n
 | [],n,_=>by simp
 | x::r,n,h=>by
   have h1:=flatten_len r n (fun y hy=>h y (by simp[hy]))
   have h2:=h x (by simp)
   rw[List.flatten_cons,List.length_append,List.length_cons,Nat.add_mul]
   omega
def hsl (s:Sco):Bool:=decide (s.op=5) || decide (s.op=6)
def fil (s:Sco)(u:Ui):Sco:=if s.op=5 then⟨1,eB,u⟩else if s.op=6 then⟨2,eB,u⟩else s
def fif (s:Sco)(u:Ui):Int:=if hsl s then uf u else 0
def lkf (p:Po)(who what:Ui):Int:=if pof p=0 then(if fif p.who who=0 then fif p.what what else fif p.who who)else pof p
def lkP (p:Po)(who what:Ui):Po:=⟨p.nm,p.fb,fil p.who who,p.act,fil p.what what,p.cs⟩
def sQp:ByteArray:=⟨#[63,112,114,105,110,99,105,112,97,108]⟩
def sQr:ByteArray:=⟨#[63,114,101,115,111,117,114,99,101]⟩
def slL (p:Po):List ByteArray:=(if hsl p.who then[sQp]else[])++(if hsl p.what then[sQr]else[])
theorem qv_p:qv sPrin=sQp:=rfl
theorem qv_r:qv sRes=sQr:=rfl
theorem hsl_iff (s:Sco):hsl s=true↔s.op=5∨s.op=6:=by unfold hsl;simp
theorem hsl_not {s:Sco}(h:hsl s=false):s.op≠5∧s.op≠6:=by unfold hsl at h;simpa using h
theorem fil_none {s:Sco}(h:hsl s=false)(u:Ui):fil s u=s:=by
 have:=hsl_not h
 unfold fil
 rw[if_neg this.1,if_neg this.2]
theorem fil_done (s:Sco)(u:Ui):hsl (fil s u)=false:=by
 unfold fil
 by_cases h5:s.op=5
 · rw[if_pos h5];rfl
 · rw[if_neg h5]
   by_cases h6:s.op=6
   · rw[if_pos h6];rfl
   · rw[if_neg h6];unfold hsl;simp[h5,h6]
theorem fil_ok {s:Sco}{u:Ui}(h:scOk true s=true)(h2:fif s u=0):scOk true (fil s u)=true:=by
 unfold fil
 by_cases h5:s.op=5
 · rw[if_pos h5]
   have hu:uf u=0:=by unfold fif at h2;rw[if_pos ((hsl_iff s).2 (.inl h5))]at h2;exact h2
   unfold scOk okU
   simp[hu]
 · rw[if_neg h5]
   by_cases h6:s.op=6
   · rw[if_pos h6]
     have hu:uf u=0:=by unfold fif at h2;rw[if_pos ((hsl_iff s).2 (.inr h6))]at h2;exact h2
     unfold scOk okU
     simp[hu]
   · rw[if_neg h6];exact h
theorem lkf_ways {p:Po}{a b:Ui}(h:lkf p a b=0):pof p=0∧fif p.who a=0∧fif p.what b=0:=by
 unfold lkf at h
 by_cases h1:pof p=0
 · rw[if_pos h1]at h
   by_cases h2:fif p.who a=0
   · rw[if_pos h2]at h;exact⟨h1,h2,h⟩
   · rw[if_neg h2]at h;exact absurd h h2
 · rw[if_neg h1]at h;exact absurd h h1
theorem pof_lk {p:Po}{a b:Ui}(h:lkf p a b=0):pof (lkP p a b)=0:=by
 obtain⟨h1,h2,h3⟩:=lkf_ways h
 obtain⟨g1,g2,g3,g4,g5,g6⟩:=pof_ways h1
 unfold pof lkP
 simp only
 rw[if_pos g1,fil_ok g2 h2,g3,fil_ok g4 h3,if_pos (by rfl),if_neg (by omega),g6]
theorem fif_done (s:Sco)(u v:Ui):fif (fil s u) v=0:=by
 unfold fif
 rw[fil_done]
 rfl
theorem lkf_done {p:Po}{a b:Ui}(h:lkf p a b=0)(c d:Ui):lkf (lkP p a b) c d=0:=by
 unfold lkf
 rw[if_pos (pof_lk h)]
 unfold lkP
 simp only[fif_done,if_true]
theorem lkP_done (p:Po)(a b c d:Ui):lkP (lkP p a b) c d=lkP p a b:=by
 unfold lkP
 simp only[fil_none (fil_done _ _)]
theorem slL_done (p:Po)(a b:Ui):slL (lkP p a b)=[]:=by
 unfold slL lkP
 simp only[fil_done]
 rfl
theorem lk_part {a:List Nd}(h:xfault a=0)(z:List Nd){f:Nat}(hf:a.length<f):pastE f (a++z)=some z:=by
 have:=pastE_append z f a [] (pastE_any (xfault_zero h).2 hf)
 simpa using this
theorem lk_op1 {x:Nd}(h7:x.op≠7)(h6:x.op≠6)(hx:exOk x=true)(hp:prt x=1){a:List Nd}(ha:xfault a=0)(hl:a.length+1≤200):xfault (x::a)=0:=by
 refine xfault_ok (by simp;omega) ((isEx_iff _).2 ?_)
 rw[pastE_parts (g:=(x::a).length) (x:=x) h7 hx h6,hp]
 have:=lk_part ha [] (f:=(x::a).length) (by simp)
 rw[List.append_nil]at this
 show partsE _ 1 a=_
 simp only[partsE]
 rw[this]
theorem lk_op2 {x:Nd}(h7:x.op≠7)(h6:x.op≠6)(hx:exOk x=true)(hp:prt x=2){a b:List Nd}(ha:xfault a=0)(hb:xfault b=0)(hl:a.length+b.length+1≤200):xfault (x::(a++b))=0:=by
 refine xfault_ok (by simp;omega) ((isEx_iff _).2 ?_)
 rw[pastE_parts (g:=(x::(a++b)).length) (x:=x) h7 hx h6,hp]
 have h1:=lk_part ha b (f:=(x::(a++b)).length) (by simp;omega)
 have h2:=lk_part hb [] (f:=(x::(a++b)).length) (by simp;omega)
 rw[List.append_nil]at h2
 show partsE _ 2 (a++b)=_
 simp only[partsE]
 rw[h1]
 simp only
 rw[h2]
theorem lk_ands:∀(n:Nat) (l:List (List Nd)),l.length=n+1→(∀a∈l,xfault a=0)→(andsL n l).length≤200→xfault (andsL n l)=0
 | 0,l,hl,h,_=>by
   obtain⟨a,rfl⟩:=List.length_eq_one_iff.1 hl
   simpa[andsL]using h a (by simp)
 | n+1,l,hl,h,h2=>by
   have hne:l≠[]:=by intro e;rw[e]at hl;cases hl
   rw[←List.dropLast_concat_getLast hne]at h h2 ⊢
   rw[andsL_snoc]at h2 ⊢
   have hd:l.dropLast.length=n+1:=by simp[hl]
   have hz:=h (l.getLast hne) (by simp)
   refine lk_op2 (x:=nO 11) (by decide) (by decide) rfl rfl (lk_ands n _ hd (fun a ha=>h a (by simp only[List.mem_append];exact .inl ha)) ?_) hz ?_
   · simp at h2;omega
   · simp at h2;omega
theorem lk_var {v:ByteArray}(h:varOk v.data.toList=true):xfault [nSy 8 v]=0:=by
 refine xfault_ok (by simp) ((isEx_iff _).2 ?_)
 have hx:exOk (nSy 8 v)=true:=by
  unfold exOk
  simp[nSy,h,eB]
  exact(by decide:(0:Int)≤0)
 show pastE (1+1) (nSy 8 v::[])=some []
 rw[pastE_parts (g:=1) (x:=nSy 8 v) (show(8:Int)≠7 by decide) hx (show(8:Int)≠6 by decide)]
 show partsE _ 0 []=_
 rfl
theorem lk_ent {u:Ui}(h:uf u=0):xfault [nEn u]=0:=by
 refine xfault_ok (by simp) ((isEx_iff _).2 ?_)
 obtain⟨h1,h2⟩:=ufault_both h
 have hx:exOk (nEn u)=true:=by
  unfold exOk
  rw[if_pos (by simp[nEn])]
  simp[ndOk,nEn,h1,h2]
 show pastE (1+1) (nEn u::[])=some []
 rw[pastE_parts (g:=1) (x:=nEn u) (show(4:Int)≠7 by decide) hx (show(4:Int)≠6 by decide)]
 show partsE _ 0 []=_
 rfl
theorem lk_is {s:ByteArray}(h:nfault s.data.toList=0){a:List Nd}(ha:xfault a=0)(hl:a.length+1≤200):xfault (nSy 24 s::a)=0:=by
 have hx:exOk (nSy 24 s)=true:=by
  unfold exOk
  simp[nSy,h,eB]
  exact(by decide:(0:Int)≤1)
 exact lk_op1 (x:=nSy 24 s) (show(24:Int)≠7 by decide) (show(24:Int)≠6 by decide) hx rfl ha hl
def Side (v:ByteArray):Prop:=v=sPrin∨v=sAct∨v=sRes
theorem lk_varOk {v:ByteArray}(h:Side v):varOk v.data.toList=true:=by
 rcases h with rfl | rfl | rfl<;>decide
theorem lk_slotOk {v:ByteArray}(h:Side v):varOk (qv v).data.toList=true:=by
 rcases h with rfl | rfl | rfl<;>decide
theorem lk_sc {v:ByteArray}(hv:Side v){b:Bool}{s:Sco}(h:scOk b s=true):xfault (scE v s)=0:=by
 have hx:=lk_var (lk_varOk hv)
 have hq:=lk_var (lk_slotOk hv)
 have n14:∀ {a b:List Nd},xfault a=0→xfault b=0→a.length+b.length+1≤200→xfault (nO 14::(a++b))=0:=fun ha hb hl=>lk_op2 (x:=nO 14) (by decide) (by decide) rfl rfl ha hb hl
 have n20:∀ {a b:List Nd},xfault a=0→xfault b=0→a.length+b.length+1≤200→xfault (nO 20::(a++b))=0:=fun ha hb hl=>lk_op2 (x:=nO 20) (by decide) (by decide) rfl rfl ha hb hl
 obtain⟨op,ty,w⟩:=s
 unfold scOk at h
 unfold scE
 simp only at h ⊢
 have okU_uf:∀ {u:Ui},okU u=true→uf u=0:=fun h=>by unfold okU at h;simpa using h
 have okN_nf:∀ {s:ByteArray},okN s=true→nfault s.data.toList=0:=fun h=>by unfold okN at h;simpa using h
 by_cases h1:op=1
 · rw[if_pos h1]
   rw[if_neg (by omega),if_pos (.inl h1)]at h
   simp only[Bool.and_eq_true]at h
   exact n14 hx (lk_ent (okU_uf h.2)) (by simp)
 rw[if_neg h1]
 by_cases h2:op=2
 · rw[if_pos h2]
   rw[if_neg (by omega),if_pos (.inr h2)]at h
   simp only[Bool.and_eq_true]at h
   exact n20 hx (lk_ent (okU_uf h.2)) (by simp)
 rw[if_neg h2]
 by_cases h3:op=3
 · rw[if_pos h3]
   rw[if_neg (by omega),if_neg (by omega),if_pos h3]at h
   simp only[Bool.and_eq_true]at h
   exact lk_is (okN_nf h.1) hx (by simp)
 rw[if_neg h3]
 by_cases h4:op=4
 · rw[if_pos h4]
   rw[if_neg (by omega),if_neg (by omega),if_neg h3,if_pos h4]at h
   simp only[Bool.and_eq_true]at h
   exact lk_op2 (x:=nO 11) (a:=nSy 24 ty::[nSy 8 v]) (by decide) (by decide) rfl rfl (lk_is (okN_nf h.1) hx (by simp)) (n20 hx (lk_ent (okU_uf h.2)) (by simp)) (by simp)
 rw[if_neg h4]
 by_cases h5:op=5
 · rw[if_pos h5];exact n14 hx hq (by simp)
 rw[if_neg h5]
 by_cases h6:op=6
 · rw[if_pos h6];exact n20 hx hq (by simp)
 rw[if_neg h6]
 decide
theorem lk_cd {c:Cnd}(h:xfault c.ex=0)(hl:(cdE c).length≤200):xfault (cdE c)=0:=by
 unfold cdE at hl ⊢
 cases hu:c.un with
 | false=>rw[if_neg (by simp)];exact h
 | true=>
   rw[if_pos rfl]
   rw[hu,if_pos rfl]at hl
   exact lk_op1 (x:=nO 9) (by decide) (by decide) rfl rfl h (by simpa using hl)
theorem mem_flat_len:∀ {l:List (List Nd)} {x:List Nd},x∈l→x.length≤l.flatten.length
 | y::r,x,h=>by
   rw[List.flatten_cons,List.length_append]
   rcases List.mem_cons.1 h with rfl | h
   · omega
   · have:=mem_flat_len h;omega
theorem lk_po {p:Po}(h:pof p=0)(hl:(poE p).length≤200):xfault (poE p)=0:=by
 obtain⟨_,g2,g3,g4,g5,g6⟩:=pof_ways h
 unfold poE at hl ⊢
 refine lk_ands _ _ (by simp[poP];omega) (fun a ha=>?_) hl
 have hla:a.length≤200:=by
  have:=mem_flat_len ha
  unfold andsL at hl
  rw[List.length_append]at hl
  omega
 unfold poP at ha
 rcases List.mem_cons.1 ha with rfl | ha
 · exact lk_sc (.inl rfl) g2
 rcases List.mem_cons.1 ha with rfl | ha
 · exact lk_sc (.inr (.inl rfl)) g3
 rcases List.mem_cons.1 ha with rfl | ha
 · exact lk_sc (.inr (.inr rfl)) g4
 obtain⟨c,hc,rfl⟩:=List.mem_map.1 ha
 exact lk_cd (cdf_zero (csf_zero g6 c hc)).1 hla
theorem put_flat (s:ByteArray)(V:List Nd):∀l:List (List Nd),putE s V l.flatten=(l.map (putE s V)).flatten
 | []=>rfl
 | x::r=>by rw[List.flatten_cons,putE_append,put_flat s V r];rfl
theorem put_ands (s:ByteArray)(V:List Nd)(n:Nat)(l:List (List Nd)):putE s V (andsL n l)=andsL n (l.map (putE s V)):=by
 unfold andsL
 rw[putE_append,put_flat]
 congr 1
 exact putE_none (fun x hx=>by obtain⟨_,rfl⟩:=List.mem_replicate.1 hx;rfl)
theorem isV_no {s:ByteArray}{x:Nd}(h:x.op≠8∨x.s≠s):isV s x=false:=by
 cases e:isV s x with
 | false=>rfl
 | true=>
   obtain⟨h1,h2⟩:=(isV_iff s x).1 e
   exact absurd h (by simp[h1,h2])
theorem put_other {v v2:ByteArray}(hv:Side v)(hv2:Side v2)(hne:v≠v2)(V:List Nd)(s:Sco):putE (qv v2) V (scE v s)=scE v s:=by
 have h1:v≠qv v2:=by rcases hv with rfl | rfl | rfl<;>rcases hv2 with rfl | rfl | rfl<;>decide
 have h2:qv v≠qv v2:=by rcases hv with rfl | rfl | rfl<;>rcases hv2 with rfl | rfl | rfl<;>first | exact absurd rfl hne | decide
 have a1:isV (qv v2) (nSy 8 v)=false:=isV_no (.inr h1)
 have a2:isV (qv v2) (nSy 8 (qv v))=false:=isV_no (.inr h2)
 have a3:∀u,isV (qv v2) (nEn u)=false:=fun u=>isV_no (.inl (show(4:Int)≠8 by decide))
 have a4:∀o,o≠8→isV (qv v2) (nO o)=false:=fun o ho=>isV_no (.inl ho)
 have a5:∀x,isV (qv v2) (nSy 24 x)=false:=fun x=>isV_no (.inl (show(24:Int)≠8 by decide))
 have a6:isV (qv v2) nTr=false:=isV_no (.inl (by decide))
 refine putE_none (fun x hx=>?_)
 unfold scE at hx
 split at hx
 · simp at hx;rcases hx with rfl | rfl | rfl<;>first | exact a4 14 (by decide) | exact a1 | exact a3 _
 split at hx
 · simp at hx;rcases hx with rfl | rfl | rfl<;>first | exact a4 20 (by decide) | exact a1 | exact a3 _
 split at hx
 · simp at hx;rcases hx with rfl | rfl<;>first | exact a5 _ | exact a1
 split at hx
 · simp at hx;rcases hx with rfl | rfl | rfl | rfl | rfl | rfl<;>first | exact a4 11 (by decide) | exact a5 _ | exact a1 | exact a4 20 (by decide) | exact a3 _
 split at hx
 · simp at hx;rcases hx with rfl | rfl | rfl<;>first | exact a4 14 (by decide) | exact a1 | exact a2
 split at hx
 · simp at hx;rcases hx with rfl | rfl | rfl<;>first | exact a4 20 (by decide) | exact a1 | exact a2
 · simp at hx;subst hx;exact a6
theorem put_slot {v:ByteArray}(hv:Side v)(u:Ui)(s:Sco)(h:hsl s=true):putE (qv v) [nEn u] (scE v s)=scE v (fil s u):=by
 have h1:v≠qv v:=by rcases hv with rfl | rfl | rfl<;>decide
 have a1:isV (qv v) (nSy 8 v)=false:=isV_no (.inr h1)
 have a2:isV (qv v) (nSy 8 (qv v))=true:=(isV_iff _ _).2 ⟨rfl,rfl⟩
 have a4:∀o,o≠8→isV (qv v) (nO o)=false:=fun o ho=>isV_no (.inl ho)
 obtain⟨op,ty,w⟩:=s
 rcases(hsl_iff _).1 h with h | h
 · simp only at h
   subst h
   show putE (qv v) [nEn u] [nO 14,nSy 8 v,nSy 8 (qv v)]=[nO 14,nSy 8 v,nEn u]
   rw[putE_cons,rep_no (a4 14 (by decide)),putE_cons,rep_no a1,putE_cons,rep_yes a2]
   rfl
 · simp only at h
   subst h
   show putE (qv v) [nEn u] [nO 20,nSy 8 v,nSy 8 (qv v)]=[nO 20,nSy 8 v,nEn u]
   rw[putE_cons,rep_no (a4 20 (by decide)),putE_cons,rep_no a1,putE_cons,rep_yes a2]
   rfl
theorem put_cd {v:ByteArray}(hv:Side v)(V:List Nd){c:Cnd}(h:cdf c=0):putE (qv v) V (cdE c)=cdE c:=by
 have hn:(qv v)∉vars c.ex:=fun hm=>by
  have h2:=(cdf_zero h).2
  have h3:isQ (qv v)=true:=by rcases hv with rfl | rfl | rfl<;>decide
  have:(nms c.ex).any isQ=true:=List.any_eq_true.2 ⟨_,mem_nms.2 hm,h3⟩
  rw[h2]at this
  cases this
 refine putE_none (fun x hx=>?_)
 unfold cdE at hx
 split at hx
 · rcases List.mem_cons.1 hx with rfl | hx
   · exact isV_no (.inl (by decide))
   · exact not_vars.1 hn x hx
 · exact not_vars.1 hn x hx
theorem put_cds {v:ByteArray}(hv:Side v)(V:List Nd){cs:List Cnd}(h:csf cs=0):(cs.map cdE).map (putE (qv v) V)=cs.map cdE:=by
 rw[List.map_map]
 exact List.map_congr_left (fun c hc=>put_cd hv V (csf_zero h c hc))
theorem put_who {p:Po}(h:csf p.cs=0)(u:Ui)(hs:hsl p.who=true):putE sQp [nEn u] (poE p)=poE ⟨p.nm,p.fb,fil p.who u,p.act,p.what,p.cs⟩:=by
 have s1:Side sPrin:=.inl rfl
 rw[←qv_p]
 unfold poE
 rw[put_ands]
 unfold poP
 simp only[List.map_cons]
 rw[put_cds s1 _ h,put_slot s1 u p.who hs,put_other (.inr (.inl rfl)) s1 (by decide),put_other (.inr (.inr rfl)) s1 (by decide)]
theorem put_what {p:Po}(h:csf p.cs=0)(u:Ui)(hs:hsl p.what=true):putE sQr [nEn u] (poE p)=poE ⟨p.nm,p.fb,p.who,p.act,fil p.what u,p.cs⟩:=by
 have s3:Side sRes:=.inr (.inr rfl)
 rw[←qv_r]
 unfold poE
 rw[put_ands]
 unfold poP
 simp only[List.map_cons]
 rw[put_cds s3 _ h,put_slot s3 u p.what hs,put_other (.inl rfl) s3 (by decide),put_other (.inr (.inl rfl)) s3 (by decide)]
theorem fil_len (v:ByteArray)(s:Sco)(u:Ui):(scE v (fil s u)).length=(scE v s).length:=by
 cases h:hsl s with
 | false=>rw[fil_none h]
 | true=>
   obtain⟨op,ty,w⟩:=s
   rcases(hsl_iff _).1 h with h | h
   · simp only at h;subst h;rfl
   · simp only at h;subst h;rfl
theorem poE_len (p:Po)(a b:Ui):(poE (lkP p a b)).length=(poE p).length:=by
 unfold poE poP andsL lkP
 simp only[List.length_append,List.flatten_cons,fil_len]
structure Rq where
 who:Ui
 act:Ui
 what:Ui
 cx:List Nd
def askf (q:Rq):Int:=if uf q.who=0 then(if uf q.act=0 then(if uf q.what=0 then afault q.cx else uf q.what)else uf q.act)else uf q.who
def AbvN (es:List En):Nat→Ui→Ui→Prop
 | 0,_,_=>False
 | n+1,a,b=>∃x,(x=a∨AbvN es n a x)∧b∈upsOf es x
theorem abvN_succ {es:List En}:∀ {n:Nat} {a b:Ui},AbvN es n a b→AbvN es (n+1) a b
 | 0,_,_,h=>h.elim
 | n+1,a,b,⟨x,hx,hb⟩=>⟨x,hx.imp id abvN_succ,hb⟩
theorem abvN_mono {es:List En}{n m:Nat}(h:n≤m){a b:Ui}(k:AbvN es n a b):AbvN es m a b:=by
 induction h with
 | refl=>exact k
 | step _ ih=>exact abvN_succ ih
theorem abvN_abv {es:List En}:∀ {n:Nat} {a b:Ui},AbvN es n a b→Abv es a b
 | 0,_,_,h=>h.elim
 | n+1,a,b,⟨x,hx,hb⟩=>by
   rcases hx with rfl | hx
   · exact .one hb
   · exact(abvN_abv hx).trans (.one hb)
theorem abvN_cons {es:List En}{a b:Ui}(hb:b∈upsOf es a):∀ {n:Nat} {c:Ui},AbvN es n b c→AbvN es (n+1) a c
 | 0,_,h=>h.elim
 | n+1,c,⟨x,hx,hc⟩=>by
   refine⟨x,.inr ?_,hc⟩
   rcases hx with rfl | hx
   · exact⟨a,.inl rfl,hb⟩
   · exact abvN_cons hb hx
theorem abv_abvN {es:List En}{a b:Ui}(h:Abv es a b):∃n,AbvN es n a b:=by
 induction h with
 | one h=>exact⟨1,_,.inl rfl,h⟩
 | more h _ ih=>obtain⟨n,hn⟩:=ih;exact⟨n+1,abvN_cons h hn⟩
theorem countP_same {α :Type}{p q: α →Bool}:∀(l:List α),(∀x∈l,p x=true→q x=true)→l.countP q≤l.countP p→∀x∈l,q x=true→p x=true
 | [],_,_,x,hx,_=>by cases hx
 | y::l,hm,hc,x,hx,hq=>by
   have hle:l.countP p≤l.countP q:=List.countP_mono_left (fun z hz=>hm z (by simp[hz]))
   rw[List.countP_cons,List.countP_cons]at hc
   have hy:=hm y (by simp)
   cases hpy:p y<;>cases hqy:q y<;>simp[hpy,hqy]at hc hy
   · rcases List.mem_cons.1 hx with rfl | hx
     · rw[hqy]at hq;cases hq
     · exact countP_same l (fun z hz=>hm z (by simp[hz])) hc x hx hq
   · omega
   · rcases List.mem_cons.1 hx with rfl | hx
     · exact hpy
     · exact countP_same l (fun z hz=>hm z (by simp[hz])) hc x hx hq
theorem stalls (f:Nat→Nat)(n:Nat)(h0:1≤f 0)(hn:f n≤n):∃s,s<n∧f (s+1)≤f s:=by
 rcases Classical.em (∃s,s<n∧f (s+1)≤f s)with h | h
 · exact h
 · exfalso
   have hs:∀s,s≤n→s+1≤f s:=by
    intro s
    induction s with
    | zero=>intro _;exact h0
    | succ s ih=>
      intro hle
      have h1:=ih (by omega)
      have h2:¬f (s+1)≤f s:=fun q=>h ⟨s,by omega,q⟩
      omega
   have:=hs n (Nat.le_refl _)
   omega
def ClosedAt (es:List En)(s:Nat)(a:Ui):Prop:=∀x v,(x=a∨AbvN es s a x)→v∈upsOf es x→AbvN es s a v
theorem ClosedAt.all {es:List En}{s:Nat}{a:Ui}(h:ClosedAt es s a):∀(m:Nat) (b:Ui),AbvN es m a b→AbvN es s a b
 | 0,_,k=>k.elim
 | m+1,b,⟨x,hx,hb⟩=>h x b (hx.imp id (h.all m x)) hb
open Classical in
theorem closed_at (es:List En)(a:Ui):∃s,s≤es.length∧ClosedAt es s a:=by
 rcases Classical.em (∃e∈es,e.u=a)with ha | ha
 · obtain⟨e0,he0,hea⟩:=ha
   let p:Nat→En→Bool:=fun s e=>decide (e.u=a∨AbvN es s a e.u)
   have hp0:1≤es.countP (p 0):=List.countP_pos_iff.2 ⟨e0,he0,by simp[p,hea]⟩
   obtain⟨s,hs,hle⟩:=stalls (fun s=>es.countP (p s)) es.length hp0 List.countP_le_length
   refine⟨s+1,hs,fun x v hx hv=>?_⟩
   obtain⟨e,he,rfl,_⟩:=upsOf_mem hv
   have hq:=countP_same (p:=p s) (q:=p (s+1)) es (fun z _ hz=>by
    simp only[p,decide_eq_true_eq]at hz ⊢
    exact hz.imp id abvN_succ) hle e he (by simp only[p,decide_eq_true_eq];exact hx)
   simp only[p,decide_eq_true_eq]at hq
   exact⟨e.u,hq,hv⟩
 · refine⟨0,Nat.zero_le _,fun x v hx hv=>?_⟩
   rcases hx with rfl | hx
   · obtain⟨e,he,h1,_⟩:=upsOf_mem hv
     exact absurd ⟨e,he,h1⟩ ha
   · exact hx.elim
theorem abv_iff (es:List En)(a b:Ui):Abv es a b↔AbvN es es.length a b:=by
 constructor
 · intro h
   obtain⟨n,hn⟩:=abv_abvN h
   obtain⟨s,hs,hc⟩:=closed_at es a
   exact abvN_mono hs (hc.all n b hn)
 · exact abvN_abv
def mpN (a b:Ui)(x:Nd):Nd:=if isV sQp x=true then nEn a else if isV sQr x=true then nEn b else x
theorem mp_put (a b:Ui):∀e:List Nd,putE sQr [nEn b] (putE sQp [nEn a] e)=e.map (mpN a b)
 | []=>rfl
 | x::r=>by
   rw[putE_cons,putE_append,mp_put a b r,List.map_cons]
   unfold mpN
   cases h:isV sQp x with
   | true=>
     rw[rep_yes h,if_pos rfl]
     have h2:isV sQr (nEn a)=false:=isV_no (.inl (show(4:Int)≠8 by decide))
     rw[putE_cons,rep_no h2]
     rfl
   | false=>
     rw[rep_no h,if_neg (by decide)]
     cases h2:isV sQr x with
     | true=>rw[putE_cons,rep_yes h2,if_pos rfl];rfl
     | false=>rw[putE_cons,rep_no h2,if_neg (by decide)];rfl
theorem put_noslot {v:ByteArray}(hv:Side v)(V:List Nd){s:Sco}(h:hsl s=false):putE (qv v) V (scE v s)=scE v s:=by
 have h1:v≠qv v:=by rcases hv with rfl | rfl | rfl<;>decide
 have a1:isV (qv v) (nSy 8 v)=false:=isV_no (.inr h1)
 have a3:∀u,isV (qv v) (nEn u)=false:=fun u=>isV_no (.inl (show(4:Int)≠8 by decide))
 have a4:∀o,o≠8→isV (qv v) (nO o)=false:=fun o ho=>isV_no (.inl ho)
 have a5:∀x,isV (qv v) (nSy 24 x)=false:=fun x=>isV_no (.inl (show(24:Int)≠8 by decide))
 have a6:isV (qv v) nTr=false:=isV_no (.inl (by decide))
 obtain⟨n5,n6⟩:=hsl_not h
 refine putE_none (fun x hx=>?_)
 unfold scE at hx
 rw[if_neg n5,if_neg n6]at hx
 split at hx
 · simp at hx;rcases hx with rfl | rfl | rfl<;>first | exact a4 14 (by decide) | exact a1 | exact a3 _
 split at hx
 · simp at hx;rcases hx with rfl | rfl | rfl<;>first | exact a4 20 (by decide) | exact a1 | exact a3 _
 split at hx
 · simp at hx;rcases hx with rfl | rfl<;>first | exact a5 _ | exact a1
 split at hx
 · simp at hx;rcases hx with rfl | rfl | rfl | rfl | rfl | rfl<;>first | exact a4 11 (by decide) | exact a5 _ | exact a1 | exact a4 20 (by decide) | exact a3 _
 · simp at hx;subst hx;exact a6
theorem put_whoN {p:Po}(h:csf p.cs=0)(u:Ui):putE sQp [nEn u] (poE p)=poE ⟨p.nm,p.fb,fil p.who u,p.act,p.what,p.cs⟩:=by
 cases hs:hsl p.who with
 | true=>exact put_who h u hs
 | false=>
   have s1:Side sPrin:=.inl rfl
   rw[fil_none hs,←qv_p]
   unfold poE
   rw[put_ands]
   unfold poP
   simp only[List.map_cons]
   rw[put_cds s1 _ h,put_noslot s1 _ hs,put_other (.inr (.inl rfl)) s1 (by decide),put_other (.inr (.inr rfl)) s1 (by decide)]
theorem put_whatN {p:Po}(h:csf p.cs=0)(u:Ui):putE sQr [nEn u] (poE p)=poE ⟨p.nm,p.fb,p.who,p.act,fil p.what u,p.cs⟩:=by
 cases hs:hsl p.what with
 | true=>exact put_what h u hs
 | false=>
   have s3:Side sRes:=.inr (.inr rfl)
   rw[fil_none hs,←qv_r]
   unfold poE
   rw[put_ands]
   unfold poP
   simp only[List.map_cons]
   rw[put_cds s3 _ h,put_noslot s3 _ hs,put_other (.inl rfl) s3 (by decide),put_other (.inr (.inl rfl)) s3 (by decide)]
theorem mp_po {p:Po}(a b:Ui)(h:pof p=0):(poE p).map (mpN a b)=poE (lkP p a b):=by
 obtain⟨_,_,_,_,_,g6⟩:=pof_ways h
 rw[←mp_put,put_whoN g6 a,put_whatN (p:=⟨p.nm,p.fb,fil p.who a,p.act,p.what,p.cs⟩) g6 b]
 rfl
theorem mp_no {a b:Ui}{x:Nd}(h:x.op≠8):mpN a b x=x:=by
 unfold mpN
 rw[if_neg (by rw[isV_no (.inl h)];decide),if_neg (by rw[isV_no (.inl h)];decide)]
theorem mp_p {a b:Ui}{x:Nd}(h:x.op=8)(hs:x.s=sQp):mpN a b x=nEn a:=by
 unfold mpN
 rw[if_pos ((isV_iff _ _).2 ⟨h,hs⟩)]
theorem mp_r {a b:Ui}{x:Nd}(h:x.op=8)(hs:x.s=sQr):mpN a b x=nEn b:=by
 unfold mpN
 rw[if_neg (by rw[isV_no (.inr (by rw[hs];decide))];decide),if_pos ((isV_iff _ _).2 ⟨h,hs⟩)]
theorem mp_o {a b:Ui}{x:Nd}(h:x.op=8)(h1:x.s≠sQp)(h2:x.s≠sQr):mpN a b x=x:=by
 unfold mpN
 rw[if_neg (by rw[isV_no (.inr h1)];decide),if_neg (by rw[isV_no (.inr h2)];decide)]
end Go.Proofs.YtlnhaajjoplafaaGreatDoor
