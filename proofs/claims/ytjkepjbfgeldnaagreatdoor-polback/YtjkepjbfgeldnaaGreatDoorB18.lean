import Derived.Test.YtjkepjbfgeldnaaGreatDoorB10
import Derived.Test.YtjkepjbfgeldnaaGreatDoorB1
import Derived.Below
import Derived.Test.YtjkepjbfgeldnaaGreatDoorB15
set_option linter.unusedVariables false
set_option maxHeartbeats 12000000
namespace Go.Proofs.YtjkepjbfgeldnaaGreatDoor
structure Ui where
 t:ByteArray
 i:ByteArray
theorem Ui.ext' {a b:Ui}(h1:a.t=b.t)(h2:a.i=b.i):a=b:=by cases a;cases b;simp_all
instance:DecidableEq Ui:=fun a b=>
 if h1:a.t=b.t then
  if h2:a.i=b.i then isTrue (Ui.ext' h1 h2)else isFalse (fun e=>h2 (by rw[e]))
 else isFalse (fun e=>h1 (by rw[e]))
structure En where
 u:Ui
 up:List Ui
 nd:List Nd
instance:Inhabited Ui:=⟨⟨⟨#[]⟩,⟨#[]⟩⟩⟩
instance:Inhabited En:=⟨⟨default,[],[]⟩⟩
def uC (a b:Ui):Int:=uc a.t.data.toList a.i.data.toList b.t.data.toList b.i.data.toList
theorem uC_is:IsCmp uC where
 range a b:=uc_range _ _ _ _
 neg a b:=uc_neg _ _ _ _
 zero a b:=by
  unfold uC
  rw[uc_zero]
  exact⟨fun h=>Ui.ext' (bytes_inj h.1) (bytes_inj h.2),fun h=>by rw[h];exact⟨rfl,rfl⟩⟩
 trans a b c:=uc_trans _ _ _ _ _ _
def uf (u:Ui):Int:=ufault u.t.data.toList u.i.data.toList
def UOk (u:Ui):Prop:=u.t.size≤maxLen∧u.i.size≤maxLen
theorem uf_ok {u:Ui}(h:uf u=0):UOk u:=by
 have:=ufault_small h
 simp at this
 unfold UOk maxLen;omega
def upf (seen:List Ui):List Ui→Int
 | []=>0
 | x::r=>if uf x=0 then(if x∈seen then 6 else upf (seen++[x]) r)else uf x
def afault (l:List Nd):Int:=if vfault l=0 then(match l with | x::_=>if x.op=6 then 0 else 2 | []=>0)else vfault l
def ffup (l:List Ui):Int:=if 6<l.length then 4 else upf [] l
def efault (e:En):Int:=if ffup e.up=0 then afault e.nd else ffup e.up
def lfault (seen:List Ui):List En→Int
 | []=>0
 | e::r=>if uf e.u=0 then(if e.u∈seen then 6 else if efault e=0 then lfault (seen++[e.u]) r else efault e)else uf e.u
def upsOf (es:List En)(u:Ui):List Ui:=match es.find? (fun e=>decide (e.u=u))with | some e=>e.up | none=>[]
inductive Abv (es:List En):Ui→Ui→Prop
 | one {a b:Ui}:b∈upsOf es a→Abv es a b
 | more {a b c:Ui}:b∈upsOf es a→Abv es b c→Abv es a c
def Cyc (es:List En):Prop:=∃e∈es,Abv es e.u e.u
open Classical in
noncomputable def stf (es:List En):Int:=if 16<es.length then 4 else if lfault [] es=0 then(if Cyc es then 7 else 0)else lfault [] es
theorem Abv.trans {es:List En}{a b c:Ui}(h:Abv es a b)(k:Abv es b c):Abv es a c:=by
 induction h with
 | one h=>exact .more h k
 | more h _ ih=>exact .more h (ih k)
theorem upsOf_mem {es:List En}{a b:Ui}(h:b∈upsOf es a):∃e∈es,e.u=a∧e.up=upsOf es a:=by
 unfold upsOf at h ⊢
 cases hf:es.find? (fun e=>decide (e.u=a))with
 | none=>rw[hf]at h;cases h
 | some e=>exact⟨e,List.mem_of_find?_eq_some hf,by simpa using List.find?_some hf,rfl⟩
theorem Abv.from {es:List En}{a b:Ui}(h:Abv es a b):∃e∈es,e.u=a:=by
 cases h with
 | one h=>obtain⟨e,h1,h2,_⟩:=upsOf_mem h;exact⟨e,h1,h2⟩
 | more h _=>obtain⟨e,h1,h2,_⟩:=upsOf_mem h;exact⟨e,h1,h2⟩
theorem Abv.steps {es:List En}{a b:Ui}:Abv es a b↔∃x∈upsOf es a,x=b∨Abv es x b:=by
 constructor
 · intro h
   cases h with
   | one h=>exact⟨b,h,.inl rfl⟩
   | more h k=>exact⟨_,h,.inr k⟩
 · rintro⟨x,hx,rfl | h⟩
   · exact .one hx
   · exact .more hx h
theorem abv_anti {es:List En}(hc:¬Cyc es){a b:Ui}(h:Abv es a b)(k:Abv es b a):False:=by
 obtain⟨e,he,rfl⟩:=h.from
 exact hc ⟨e,he,h.trans k⟩
theorem abv_closed {es:List En}{a:Ui}{L:List Ui}(h0:∀x∈upsOf es a,x∈L)(hc:∀v∈L,∀x∈upsOf es v,x∈L){b:Ui}(h:Abv es a b):b∈L:=by
 induction h with
 | one h=>exact h0 _ h
 | more h _ ih=>exact ih (hc _ (h0 _ h))
def Uniq (es:List En):Prop:=es.Pairwise (fun a b=>a.u≠b.u)
theorem upsOf_of_mem {es:List En}(hu:Uniq es){e:En}(he:e∈es):upsOf es e.u=e.up:=by
 induction es with
 | nil=>cases he
 | cons x r ih=>
   obtain⟨h1,h2⟩:=List.pairwise_cons.1 hu
   rcases List.mem_cons.1 he with rfl | hr
   · simp[upsOf]
   · have hne:¬x.u=e.u:=h1 e hr
     have:=ih h2 hr
     unfold upsOf at this ⊢
     rw[List.find?_cons_of_neg (by simpa using hne)]
     exact this
theorem upsOf_none {es:List En}{u:Ui}(h:∀e∈es,e.u≠u):upsOf es u=[]:=by
 unfold upsOf
 rw[List.find?_eq_none.2 (fun e he=>by simpa using h e he)]
theorem upf_zero:∀(seen l:List Ui),upf seen l=0→∀x∈l,uf x=0
 | _,[],_,x,hx=>by cases hx
 | seen,y::r,h,x,hx=>by
   unfold upf at h
   by_cases h1:uf y=0
   · rw[if_pos h1]at h
     by_cases h2:y∈seen
     · rw[if_pos h2]at h;cases h
     · rw[if_neg h2]at h
       rcases List.mem_cons.1 hx with rfl | hx
       · exact h1
       · exact upf_zero _ r h x hx
   · rw[if_neg h1]at h;exact absurd h h1
theorem ffup_zero {l:List Ui}(h:ffup l=0):l.length≤6∧∀x∈l,uf x=0:=by
 unfold ffup at h
 by_cases h1:6<l.length
 · rw[if_pos h1]at h;cases h
 · rw[if_neg h1]at h;exact⟨by omega,upf_zero _ _ h⟩
theorem efault_zero {e:En}(h:efault e=0):ffup e.up=0∧afault e.nd=0:=by
 unfold efault at h
 by_cases h1:ffup e.up=0
 · rw[if_pos h1]at h;exact⟨h1,h⟩
 · rw[if_neg h1]at h;exact absurd h h1
theorem lfault_zero:∀(seen:List Ui) (es:List En),lfault seen es=0→(∀e∈es,uf e.u=0∧e.u∉seen∧efault e=0)∧Uniq es
 | _,[],_=>⟨fun e he=>by(cases he),List.Pairwise.nil⟩
 | seen,x::r,h=>by
   unfold lfault at h
   by_cases h1:uf x.u=0
   · rw[if_pos h1]at h
     by_cases h2:x.u∈seen
     · rw[if_pos h2]at h;cases h
     · rw[if_neg h2]at h
       by_cases h3:efault x=0
       · rw[if_pos h3]at h
         obtain⟨i1,i2⟩:=lfault_zero (seen++[x.u]) r h
         refine⟨fun e he=>?_,List.pairwise_cons.2 ⟨fun e he q=>(i1 e he).2.1 (by simp[q]),i2⟩⟩
         rcases List.mem_cons.1 he with rfl | he
         · exact⟨h1,h2,h3⟩
         · obtain⟨j1,j2,j3⟩:=i1 e he
           exact⟨j1,fun q=>j2 (by simp[q]),j3⟩
       · rw[if_neg h3]at h;exact absurd h h3
   · rw[if_neg h1]at h;exact absurd h h1
structure Good (es:List En):Prop where
 few:es.length≤16
 uniq:Uniq es
 uids:∀e∈es,uf e.u=0
 ups:∀e∈es,e.up.length≤6∧∀x∈e.up,uf x=0
 cyc:¬Cyc es
theorem stf_zero {es:List En}(h:stf es=0):Good es:=by
 unfold stf at h
 by_cases h1:16<es.length
 · rw[if_pos h1]at h;cases h
 · rw[if_neg h1]at h
   by_cases h2:lfault [] es=0
   · rw[if_pos h2]at h
     by_cases h3:Cyc es
     · rw[if_pos h3]at h;cases h
     · obtain⟨i1,i2⟩:=lfault_zero _ _ h2
       exact⟨by omega,i2,fun e he=>(i1 e he).1,fun e he=>ffup_zero (efault_zero (i1 e he).2.2).1,h3⟩
   · rw[if_neg h2]at h;exact absurd h h2
def Inn (es:List En)(a b:Ui):Prop:=a=b∨Abv es a b
theorem abv_leaf {es:List En}{x:En}(hx:∀e∈es,e.u≠x.u)(hn:∀e∈es,x.u∉e.up){a:Ui}(ha:a≠x.u){b:Ui}:Abv (es++[x]) a b↔Abv es a b:=by
 have hups:∀a,a≠x.u→upsOf (es++[x]) a=upsOf es a:=by
  intro a ha
  unfold upsOf
  rw[List.find?_append]
  cases hf:es.find? (fun e=>decide (e.u=a))with
  | some e=>rfl
  | none=>simp[Ne.symm ha]
 have hne:∀a y,y∈upsOf es a→y≠x.u:=by
  intro a y hy e
  obtain⟨e',h1,_,h3⟩:=upsOf_mem hy
  exact hn e' h1 (by rw[h3,←e];exact hy)
 constructor
 · intro h
   induction h with
   | one h=>rw[hups _ ha]at h;exact .one h
   | more h _ ih=>rw[hups _ ha]at h;exact .more h (ih (hne _ _ h))
 · intro h
   induction h with
   | one h=>exact .one (by rw[hups _ ha];exact h)
   | more h _ ih=>exact .more (by rw[hups _ ha];exact h) (ih (hne _ _ h))
structure Sco where
 op:Int
 ty:ByteArray
 u:Ui
structure Cnd where
 un:Bool
 ex:List Nd
structure Po where
 nm:ByteArray
 fb:Bool
 who:Sco
 act:Sco
 what:Sco
 cs:List Cnd
def eB:ByteArray:=⟨#[]⟩
def eU:Ui:=⟨eB,eB⟩
def okN (s:ByteArray):Bool:=nfault s.data.toList == 0
def okU (u:Ui):Bool:=uf u == 0
def scOk (slot:Bool)(s:Sco):Bool:=
 if s.op=0 then decide (s.ty=eB) && decide (s.u=eU)
 else if s.op=1∨s.op=2 then decide (s.ty=eB) && okU s.u
 else if s.op=3 then okN s.ty && decide (s.u=eU)
 else if s.op=4 then okN s.ty && okU s.u
 else if s.op=5∨s.op=6 then slot && (decide (s.ty=eB) && decide (s.u=eU))
 else false
def isQ (s:ByteArray):Bool:=decide (s.data.toList.head? =some 63)
def cdf (c:Cnd):Int:=if xfault c.ex=0 then(if (nms c.ex).any isQ then 1 else 0)else xfault c.ex
def csf:List Cnd→Int
 | []=>0
 | c::r=>if cdf c=0 then csf r else cdf c
def pof (p:Po):Int:=
 if nfault p.nm.data.toList=0 then
  (if scOk true p.who && scOk false p.act && scOk true p.what then(if 4<p.cs.length then 4 else csf p.cs)else 1)
 else nfault p.nm.data.toList
theorem nfault_ne {l:List UInt8}:nfault l=0∨nfault l=1∨nfault l=4:=by
 unfold nfault
 split
 · split
   · exact .inr (.inr rfl)
   · exact .inl rfl
 · exact .inr (.inl rfl)
theorem csf_zero:∀ {l:List Cnd},csf l=0→∀c∈l,cdf c=0
 | [],_,c,h=>by cases h
 | d::r,h0,c,h=>by
   unfold csf at h0
   by_cases hd:cdf d=0
   · rw[if_pos hd]at h0
     rcases List.mem_cons.1 h with rfl | h
     · exact hd
     · exact csf_zero h0 c h
   · rw[if_neg hd]at h0;exact absurd h0 hd
theorem csf_ok:∀ {l:List Cnd},(∀c∈l,cdf c=0)→csf l=0
 | [],_=>rfl
 | d::r,h=>by
   unfold csf
   rw[if_pos (h d (by simp))]
   exact csf_ok (fun c hc=>h c (by simp[hc]))
theorem csf_cons (d:Cnd)(r:List Cnd):csf (d::r)=if cdf d=0 then csf r else cdf d:=rfl
theorem csf_app:∀(a b:List Cnd),csf (a++b)=if csf a=0 then csf b else csf a
 | [],b=>by rw[List.nil_append];exact(if_pos rfl).symm
 | d::r,b=>by
   rw[List.cons_append,csf_cons,csf_cons]
   by_cases hd:cdf d=0
   · rw[if_pos hd,if_pos hd];exact csf_app r b
   · rw[if_neg hd,if_neg hd,if_neg hd]
theorem cdf_zero {c:Cnd}(h:cdf c=0):xfault c.ex=0∧(nms c.ex).any isQ=false:=by
 unfold cdf at h
 by_cases h1:xfault c.ex=0
 · rw[if_pos h1]at h
   refine⟨h1,?_⟩
   cases h2:(nms c.ex).any isQ
   · rfl
   · rw[h2]at h;cases h
 · rw[if_neg h1]at h;exact absurd h h1
theorem pof_ways {p:Po}(h:pof p=0):nfault p.nm.data.toList=0∧scOk true p.who=true∧scOk false p.act=true∧scOk true p.what=true∧p.cs.length≤4∧csf p.cs=0:=by
 unfold pof at h
 by_cases h1:nfault p.nm.data.toList=0
 · rw[if_pos h1]at h
   by_cases h2:(scOk true p.who && scOk false p.act && scOk true p.what)=true
   · rw[if_pos h2]at h
     simp only[Bool.and_eq_true]at h2
     by_cases h3:4<p.cs.length
     · rw[if_pos h3]at h;cases h
     · rw[if_neg h3]at h
       exact⟨h1,h2.1.1,h2.1.2,h2.2,by omega,h⟩
   · rw[if_neg h2]at h;cases h
 · rw[if_neg h1]at h;exact absurd h h1
def nO (op:Int):Nd:=⟨op,0,eB,eB⟩
def nSy (op:Int)(s:ByteArray):Nd:=⟨op,0,s,eB⟩
def nEn (u:Ui):Nd:=⟨4,0,u.t,u.i⟩
def nTr:Nd:=⟨1,1,eB,eB⟩
def qv (v:ByteArray):ByteArray:=⟨#[63]⟩++v
def scE (v:ByteArray)(s:Sco):List Nd:=
 if s.op=1 then[nO 14,nSy 8 v,nEn s.u]
 else if s.op=2 then[nO 20,nSy 8 v,nEn s.u]
 else if s.op=3 then[nSy 24 s.ty,nSy 8 v]
 else if s.op=4 then[nO 11,nSy 24 s.ty,nSy 8 v,nO 20,nSy 8 v,nEn s.u]
 else if s.op=5 then[nO 14,nSy 8 v,nSy 8 (qv v)]
 else if s.op=6 then[nO 20,nSy 8 v,nSy 8 (qv v)]
 else[nTr]
theorem scE_len (v:ByteArray)(s:Sco):(scE v s).length≤6∧1≤(scE v s).length:=by
 unfold scE
 repeat' split
 all_goals exact⟨by simp,by simp⟩
def cdE (c:Cnd):List Nd:=if c.un then nO 9::c.ex else c.ex
def sPrin:ByteArray:=⟨#[112,114,105,110,99,105,112,97,108]⟩
def sAct:ByteArray:=⟨#[97,99,116,105,111,110]⟩
def sRes:ByteArray:=⟨#[114,101,115,111,117,114,99,101]⟩
def poP (p:Po):List (List Nd):=scE sPrin p.who::scE sAct p.act::scE sRes p.what::p.cs.map cdE
def andsL (n:Nat)(l:List (List Nd)):List Nd:=List.replicate n (nO 11)++l.flatten
def poE (p:Po):List Nd:=andsL (2+p.cs.length) (poP p)
theorem andsL_snoc (n:Nat)(l:List (List Nd))(x:List Nd):andsL (n+1) (l++[x])=nO 11::(andsL n l++x):=by
 unfold andsL
 rw[List.replicate_succ]
 simp
def exprL (p:Po):Except Int (List Nd):=if pof p=0 then(if (poE p).length≤200 then .ok (poE p)else .error 4)else .error (pof p)
theorem cdE_len (c:Cnd)(h:xfault c.ex=0):(cdE c).length≤201∧1≤(cdE c).length:=by
 have h2:=xfault_zero h
 have h3:1≤c.ex.length:=by
  cases hc:c.ex with
  | nil=>rw[hc]at h2;simp[pastE]at h2
  | cons x r=>simp
 unfold cdE
 split
 · simp;omega
 · omega
theorem flatten_len:∀(l:List (List Nd)) (n:Nat),(∀x∈l,x.length≤n)→l.flatten.length≤l.length*n
 | [],n,_=>by simp
 | x::r,n,h=>by
   have h1:=flatten_len r n (fun y hy=>h y (by simp[hy]))
   have h2:=h x (by simp)
   rw[List.flatten_cons,List.length_append,List.length_cons,Nat.add_mul]
   omega
def bsOf (l:List UInt8):ByteArray:=⟨l.toArray⟩
def nmT (s:ByteArray):Tk:=⟨1,s,0⟩
def qtT (s:ByteArray):Tk:=⟨3,s,0⟩
def slT (s:ByteArray):Tk:=⟨4,s,0⟩
def sgT (s:ByteArray):Tk:=⟨5,s,0⟩
def kCol:ByteArray:=⟨#[58]⟩
def kCC:ByteArray:=⟨#[58,58]⟩
def kOp:ByteArray:=⟨#[40]⟩
def kCl:ByteArray:=⟨#[41]⟩
def kCom:ByteArray:=⟨#[44]⟩
def kEq:ByteArray:=⟨#[61,61]⟩
def kBo:ByteArray:=⟨#[123]⟩
def kBc:ByteArray:=⟨#[125]⟩
def kIn:ByteArray:=⟨#[105,110]⟩
def kIs:ByteArray:=⟨#[105,115]⟩
def kWhen:ByteArray:=⟨#[119,104,101,110]⟩
def kUnless:ByteArray:=⟨#[117,110,108,101,115,115]⟩
def kPermit:ByteArray:=⟨#[112,101,114,109,105,116]⟩
def kForbid:ByteArray:=⟨#[102,111,114,98,105,100]⟩
def uidW (u:Ui):List Tk:=[nmT u.t,sgT kCC,qtT u.i]
def scW (v:ByteArray)(s:Sco):List Tk:=
 if s.op=1 then sgT kEq::uidW s.u
 else if s.op=2 then nmT kIn::uidW s.u
 else if s.op=3 then[nmT kIs,nmT s.ty]
 else if s.op=4 then nmT kIs::nmT s.ty::nmT kIn::uidW s.u
 else if s.op=5 then[sgT kEq,slT v]
 else if s.op=6 then[nmT kIn,slT v]
 else[]
def sdW (v:ByteArray)(s:Sco):List Tk:=nmT v::scW v s
def cdW (c:Cnd):List Tk:=nmT (if c.un then kUnless else kWhen)::sgT kBo::(wrd c.ex++[sgT kBc])
def hdW (p:Po):List Tk:=nmT p.nm::sgT kCol::nmT (if p.fb then kForbid else kPermit)::sgT kOp::(sdW sPrin p.who++sgT kCom::(sdW sAct p.act++sgT kCom::(sdW sRes p.what++[sgT kCl])))
def poW (p:Po):List Tk:=hdW p++p.cs.flatMap cdW
def writeL (p:Po):Except Int (List UInt8):=
 if pof p=0 then(if p.cs.any (fun c=>decide (300<(wrd c.ex).length))=true then .error 4 else spellL (poW p))else .error (pof p)
def fsT (ts:List Tk):Tk:=ts.headD bT
def psT (s:ByteArray)(ts:List Tk):List Tk:=if (fsT ts).s=s then ts.tail else ts
def uidR (ts:List Tk):Ui×List Tk:=(⟨(fsT ts).s,(fsT (psT kCC ts.tail)).s⟩,(psT kCC ts.tail).tail)
def usR (a b:Int)(ts:List Tk):Sco×List Tk:=if (fsT ts).kind=4 then(⟨b,eB,eU⟩,ts.tail)else(⟨a,eB,(uidR ts).1⟩,(uidR ts).2)
def isR (ts:List Tk):Sco×List Tk:=if (fsT ts.tail).s=kIn then(⟨4,(fsT ts).s,(uidR ts.tail.tail).1⟩,(uidR ts.tail.tail).2)else(⟨3,(fsT ts).s,eU⟩,ts.tail)
def scR (ts:List Tk):Sco×List Tk:=
 if (fsT ts).s=kEq then usR 1 5 ts.tail
 else if (fsT ts).s=kIn then usR 2 6 ts.tail
 else if (fsT ts).s=kIs then isR ts.tail
 else(⟨0,eB,eU⟩,ts)
def exR (ts:List Tk):List Nd:=match parseL ts with
 | .ok e=>e
 | .error _=>[]
def cdR (ts:List Tk):Cnd×List Tk:=(⟨decide ((fsT ts).s=kUnless),exR (insF 1 (psT kBo ts.tail)).1⟩,(insF 1 (psT kBo ts.tail)).2)
theorem psT_le (s:ByteArray)(ts:List Tk):(psT s ts).length≤ts.length:=by
 unfold psT
 split
 · simp
 · exact Nat.le_refl _
theorem cdR_le {ts:List Tk}(h:ts≠[]):(cdR ts).2.length<ts.length:=by
 have h1:=insF_le 1 (psT kBo ts.tail)
 have h2:=psT_le kBo ts.tail
 cases ts with
 | nil=>exact absurd rfl h
 | cons t r=>
   unfold cdR
   simp only[List.tail_cons,List.length_cons]at h1 h2 ⊢
   omega
def cdsR:Nat→List Tk→List Cnd
 | 0,_=>[]
 | f+1,ts=>if ts=[]then[]else(cdR ts).1::cdsR f (cdR ts).2
theorem cdsR_more:∀(f g:Nat) (ts:List Tk),ts.length≤f→ts.length≤g→cdsR f ts=cdsR g ts
 | 0,0,ts,_,_=>rfl
 | 0,g+1,ts,h,_=>by
   obtain rfl:=List.eq_nil_of_length_eq_zero (by omega:ts.length=0)
   unfold cdsR;rw[if_pos rfl]
 | f+1,0,ts,_,h=>by
   obtain rfl:=List.eq_nil_of_length_eq_zero (by omega:ts.length=0)
   unfold cdsR;rw[if_pos rfl]
 | f+1,g+1,ts,h1,h2=>by
   unfold cdsR
   by_cases h:ts=[]
   · rw[if_pos h,if_pos h]
   · rw[if_neg h,if_neg h]
     have:=cdR_le h
     rw[cdsR_more f g _ (by omega) (by omega)]
def r1 (ts:List Tk):List Tk:=(psT kOp (psT kCol ts.tail).tail).tail
def r2 (ts:List Tk):List Tk:=(psT kCom (scR (r1 ts)).2).tail
def r3 (ts:List Tk):List Tk:=(psT kCom (scR (r2 ts)).2).tail
def r4 (ts:List Tk):List Tk:=psT kCl (scR (r3 ts)).2
def poR (ts:List Tk):Po:=
 ⟨(fsT ts).s,decide ((fsT (psT kCol ts.tail)).s=kForbid),(scR (r1 ts)).1,(scR (r2 ts)).1,(scR (r3 ts)).1,cdsR (r4 ts).length (r4 ts)⟩
def readPL (l:List UInt8):Except Int Po:=
 match readL l with
 | .error _=>.error 1
 | .ok ts=>match writeL (poR ts)with
   | .error _=>.error 1
   | .ok m=>if m=l then .ok (poR ts)else .error 1
theorem at0_at0 (l:List Tk):(l.map at0).map at0=l.map at0:=by rw[List.map_map];rfl
theorem fs_at0 (l:List Tk):fsT (l.map at0)=at0 (fsT l):=by cases l<;>rfl
theorem tl_at0 (l:List Tk):(l.map at0).tail=l.tail.map at0:=by cases l<;>rfl
theorem ps_at0 (s:ByteArray)(l:List Tk):psT s (l.map at0)=(psT s l).map at0:=by
 unfold psT
 rw[fs_at0,tl_at0,show(at0 (fsT l)).s=(fsT l).s from rfl]
 split<;>rfl
theorem uid_at0 (l:List Tk):uidR (l.map at0)=((uidR l).1,(uidR l).2.map at0):=by
 unfold uidR
 rw[tl_at0,ps_at0,tl_at0,fs_at0,fs_at0]
 rfl
theorem us_at0 (a b:Int)(l:List Tk):usR a b (l.map at0)=((usR a b l).1,(usR a b l).2.map at0):=by
 unfold usR
 rw[fs_at0,uid_at0,tl_at0,show(at0 (fsT l)).kind=(fsT l).kind from rfl]
 split<;>rfl
theorem is_at0 (l:List Tk):isR (l.map at0)=((isR l).1,(isR l).2.map at0):=by
 unfold isR
 simp only[fs_at0,uid_at0,tl_at0,show ∀t,(at0 t).s=t.s from fun _=>rfl]
 split<;>rfl
theorem sc_at0 (l:List Tk):scR (l.map at0)=((scR l).1,(scR l).2.map at0):=by
 unfold scR
 simp only[fs_at0,us_at0,is_at0,tl_at0,show ∀t,(at0 t).s=t.s from fun _=>rfl]
 split
 · rfl
 · split
   · rfl
   · split<;>rfl
theorem ins_at0:∀(k:Int) (l:List Tk),insF k (l.map at0)=((insF k l).1.map at0,(insF k l).2.map at0)
 | _,[]=>rfl
 | k,t::r=>by
   rw[List.map_cons,insF_cons,insF_cons,ins_at0 _ r,show brT (at0 t)=brT t from rfl]
   split<;>simp
theorem all_at0 {l:List Tk}(h:AllS l):AllS (l.map at0):=fun t ht=>by
 obtain⟨u,hu,rfl⟩:=List.mem_map.1 ht
 exact h u hu
theorem all_back {l:List Tk}(h:AllS (l.map at0)):AllS l:=fun t ht=>h (at0 t) (List.mem_map.2 ⟨t,ht,rfl⟩)
theorem ex_at0 (l:List Tk):exR (l.map at0)=exR l:=by
 have key:∀e,parseL (l.map at0)= .ok e↔parseL l= .ok e:=by
  intro e
  constructor
  · intro h
    obtain⟨h1,h2,h3,h4⟩:=ok_parse h
    exact parse_ok (by simpa using h1) (all_back h2) (h3.shift l (at0_at0 l).symm) h4
  · intro h
    obtain⟨h1,h2,h3,h4⟩:=ok_parse h
    exact parse_ok (by simpa using h1) (all_at0 h2) (h3.shift _ (at0_at0 l)) h4
 unfold exR
 cases h:parseL l with
 | ok e=>rw[(key e).2 h]
 | error x=>
   cases h2:parseL (l.map at0)with
   | error y=>rfl
   | ok e=>rw[(key e).1 h2]at h;cases h
theorem cd_at0 (l:List Tk):cdR (l.map at0)=((cdR l).1,(cdR l).2.map at0):=by
 unfold cdR
 simp only[fs_at0,tl_at0,ps_at0,ins_at0,ex_at0,show ∀t,(at0 t).s=t.s from fun _=>rfl]
theorem cds_at0:∀(f:Nat) (l:List Tk),cdsR f (l.map at0)=cdsR f l
 | 0,l=>rfl
 | f+1,l=>by
   unfold cdsR
   by_cases h:l=[]
   · subst h;rfl
   · rw[if_neg (by simpa using h),if_neg h,cd_at0,cds_at0 f]
theorem po_at0 (l:List Tk):poR (l.map at0)=poR l:=by
 unfold poR r4 r3 r2 r1
 simp only[fs_at0,tl_at0,ps_at0,sc_at0,cds_at0,List.length_map,show ∀t,(at0 t).s=t.s from fun _=>rfl]
theorem fs_cons (t:Tk)(r:List Tk):fsT (t::r)=t:=rfl
theorem ps_yes {s:ByteArray}{t:Tk}(r:List Tk)(h:t.s=s):psT s (t::r)=r:=by unfold psT;rw[fs_cons,if_pos h];rfl
theorem ps_sg (s:ByteArray)(r:List Tk):psT s (sgT s::r)=r:=ps_yes r rfl
theorem uid_back (u:Ui)(r:List Tk):uidR (uidW u++r)=(u,r):=by
 unfold uidR uidW
 simp only[List.cons_append,List.nil_append,List.tail_cons,fs_cons]
 rw[ps_sg]
 rfl
def endS (r:List Tk):Prop:=(fsT r).s≠kEq∧(fsT r).s≠kIn∧(fsT r).s≠kIs
theorem sc_back {b:Bool}{v:ByteArray}{s:Sco}(h:scOk b s=true){r:List Tk}(hr:endS r):scR (scW v s++r)=(s,r):=by
 obtain⟨op,ty,u⟩:=s
 obtain⟨r0,r1,r2⟩:=hr
 have hop:op=0∨op=1∨op=2∨op=3∨op=4∨op=5∨op=6:=by
  by_cases a0:op=0
  · exact .inl a0
  unfold scOk at h
  rw[if_neg a0]at h
  by_cases a1:op=1∨op=2
  · omega
  rw[if_neg a1]at h
  by_cases a3:op=3
  · omega
  rw[if_neg a3]at h
  by_cases a4:op=4
  · omega
  rw[if_neg a4]at h
  by_cases a5:op=5∨op=6
  · omega
  rw[if_neg a5]at h
  cases h
 have n1:kIn≠kEq:=by decide
 have n2:kIs≠kEq:=by decide
 have n3:kIs≠kIn:=by decide
 rcases hop with rfl | rfl | rfl | rfl | rfl | rfl | rfl
 · simp[scOk]at h
   obtain⟨rfl,rfl⟩:=h
   unfold scR scW
   simp[r0,r1,r2]
 · simp[scOk]at h
   obtain⟨rfl,_⟩:=h
   have e:=uid_back u r
   simp[scR,scW,fs_cons,usR,sgT,e]
   simp[uidW,nmT,fsT]
 · simp[scOk]at h
   obtain⟨rfl,_⟩:=h
   have e:=uid_back u r
   simp[scR,scW,fs_cons,usR,nmT,e,n1]
   simp[uidW,nmT,fsT]
 · simp[scOk]at h
   obtain⟨_,rfl⟩:=h
   simp[scR,scW,fs_cons,isR,nmT,n2,n3,r1]
 · simp[scOk]at h
   have e:=uid_back u r
   simp[scR,scW,fs_cons,isR,nmT,n2,n3,e]
 · simp[scOk]at h
   obtain⟨_,rfl,rfl⟩:=h
   simp[scR,scW,fs_cons,usR,sgT,slT]
 · simp[scOk]at h
   obtain⟨_,rfl,rfl⟩:=h
   simp[scR,scW,fs_cons,usR,nmT,slT,n1]
theorem end_com (r:List Tk):endS (sgT kCom::r):=by unfold endS;rw[fs_cons];exact⟨by decide,by decide,by decide⟩
theorem end_cl (r:List Tk):endS (sgT kCl::r):=by unfold endS;rw[fs_cons];exact⟨by decide,by decide,by decide⟩
theorem cd_back {c:Cnd}(h:xfault c.ex=0)(hN:∀x∈c.ex,n64 x)(hl:(wrd c.ex).length≤300)(r:List Tk):cdR (cdW c++r)=(c,r):=by
 obtain⟨un,ex⟩:=c
 have hp:=parse_print h hN hl
 obtain⟨_,_,hd,_⟩:=ok_parse hp
 have hb:insF 1 (wrd ex++sgT kBc::r)=(wrd ex,r):=by
  rw[hd.bal 1 (Int.le_refl _),insF_cons,show brT (sgT kBc)= -1 from brT_shut rfl,if_pos (by decide)]
  simp
 unfold cdR cdW
 simp only[List.cons_append,List.tail_cons,fs_cons,List.append_assoc,List.nil_append]
 rw[ps_sg,hb]
 simp only[exR,hp]
 cases un<;>simp[nmT,show kWhen≠kUnless by decide]
theorem cds_back:∀(l:List Cnd),(∀c∈l,xfault c.ex=0∧(∀x∈c.ex,n64 x)∧(wrd c.ex).length≤300)→∀f,(l.flatMap cdW).length≤f→cdsR f (l.flatMap cdW)=l
 | [],_,f,_=>by
   cases f with
   | zero=>rfl
   | succ f=>unfold cdsR;rw[List.flatMap_nil,if_pos rfl]
 | c::r,h,f,hf=>by
   obtain⟨h1,h2,h3⟩:=h c (by simp)
   rw[List.flatMap_cons]at hf ⊢
   have hne:1≤(cdW c).length:=by simp[cdW]
   rw[List.length_append]at hf
   cases f with
   | zero=>omega
   | succ f=>
     unfold cdsR
     rw[if_neg (by intro e;have:=congrArg List.length e;rw[List.length_append,List.length_nil]at this;omega),cd_back h1 h2 h3]
     simp only
     rw[cds_back r (fun d hd=>h d (by simp[hd])) f (by omega)]
theorem po_back {p:Po}(h:pof p=0)(hN:∀c∈p.cs,∀x∈c.ex,n64 x)(hl:∀c∈p.cs,(wrd c.ex).length≤300):poR (poW p)=p:=by
 obtain⟨h1,h2,h3,h4,h5,h6⟩:=pof_ways h
 have hc:∀c∈p.cs,xfault c.ex=0∧(∀x∈c.ex,n64 x)∧(wrd c.ex).length≤300:=fun c hc=>⟨(cdf_zero (csf_zero h6 c hc)).1,hN c hc,hl c hc⟩
 have e1:r1 (poW p)=scW sPrin p.who++sgT kCom::(sdW sAct p.act++sgT kCom::(sdW sRes p.what++[sgT kCl]))++p.cs.flatMap cdW:=by
  unfold r1 poW hdW sdW
  simp only[List.cons_append,List.tail_cons]
  rw[ps_sg,List.tail_cons,ps_sg,List.tail_cons]
 have s1:=sc_back (v:=sPrin) h2 (end_com ((sdW sAct p.act++sgT kCom::(sdW sRes p.what++[sgT kCl]))++p.cs.flatMap cdW))
 have f1:scR (r1 (poW p))=(p.who,sgT kCom::((sdW sAct p.act++sgT kCom::(sdW sRes p.what++[sgT kCl]))++p.cs.flatMap cdW)):=by rw[e1];simpa using s1
 have e2:r2 (poW p)=scW sAct p.act++sgT kCom::(sdW sRes p.what++[sgT kCl])++p.cs.flatMap cdW:=by
  unfold r2
  rw[f1]
  simp only
  rw[ps_sg]
  unfold sdW
  simp only[List.cons_append,List.tail_cons]
 have s2:=sc_back (v:=sAct) h3 (end_com ((sdW sRes p.what++[sgT kCl])++p.cs.flatMap cdW))
 have f2:scR (r2 (poW p))=(p.act,sgT kCom::((sdW sRes p.what++[sgT kCl])++p.cs.flatMap cdW)):=by rw[e2];simpa using s2
 have e3:r3 (poW p)=scW sRes p.what++sgT kCl::p.cs.flatMap cdW:=by
  unfold r3
  rw[f2]
  simp only
  rw[ps_sg]
  unfold sdW
  simp
 have f3:scR (r3 (poW p))=(p.what,sgT kCl::p.cs.flatMap cdW):=by rw[e3];exact sc_back h4 (end_cl _)
 have e4:r4 (poW p)=p.cs.flatMap cdW:=by
  unfold r4
  rw[f3]
  exact ps_yes _ rfl
 obtain⟨nm,fb,who,act,what,cs⟩:=p
 unfold poR
 rw[f1,f2,f3,e4,cds_back _ hc _ (Nat.le_refl _)]
 have g1:(fsT (poW ⟨nm,fb,who,act,what,cs⟩)).s=nm:=rfl
 have g2:(fsT (psT kCol (poW ⟨nm,fb,who,act,what,cs⟩).tail)).s=(if fb then kForbid else kPermit):=by
  unfold poW hdW
  simp only[List.cons_append,List.tail_cons]
  rw[ps_sg]
  rfl
 rw[g1,g2]
 cases fb<;>simp[show kPermit≠kForbid by decide]
theorem write_read {p:Po}(hN:∀c∈p.cs,∀x∈c.ex,n64 x){l:List UInt8}(h:writeL p= .ok l):readPL l= .ok p:=by
 have hw:=h
 unfold writeL at h
 split at h
 · rename_i hp
   split at h
   · cases h
   · rename_i hl
     obtain⟨_,us,h1,h2⟩:=spell_read h
     have hl2:∀c∈p.cs,(wrd c.ex).length≤300:=fun c hc=>by
      have:¬ 300<(wrd c.ex).length:=fun e=>hl (List.any_eq_true.2 ⟨c,hc,by simpa using e⟩)
      omega
     have e:poR us=p:=by rw[←po_at0 us,h2,po_at0,po_back hp hN hl2]
     unfold readPL
     rw[h1]
     simp only[e,hw,if_true]
 · cases h
theorem read_write {p:Po}{l:List UInt8}(h:readPL l= .ok p):writeL p= .ok l:=by
 unfold readPL at h
 split at h
 · cases h
 · split at h
   · cases h
   · rename_i hm
     split at h
     · rename_i e
       injection h with h
       subst h e
       exact hm
     · cases h
end Go.Proofs.YtjkepjbfgeldnaaGreatDoor
