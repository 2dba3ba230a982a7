import Derived.Test.YtlnhaajjoplafaaGreatDoorChecked
import Derived.Test.YtlnhaajjoplafaaGreatDoorT3
import Derived.Test.YtlnhaajjoplafaaGreatDoorT9
import Derived.Maps.OwnSet
import Derived.Maps.RangeWalk
import Derived.DeepKeys4
import Derived.WalkKit
import Derived.OwnWalk
set_option linter.unusedVariables false
set_option maxHeartbeats 12000000
namespace Go.Proofs.YtlnhaajjoplafaaGreatDoor
open Go.RowKit Go.Maps Go.WideMaps
def uV (u:Ui):Value:=.agg #[.string u.t,.string u.i]
theorem uV_inj {u v:Ui}(h:uV u=uV v):u=v:=by
 unfold uV at h
 simp at h
 exact Ui.ext' h.1 h.2
def UL (w:World)(p:Option Addr)(L:List Ui):Prop:=
 L=[]∨∃b off,p=some ⟨b,off,none⟩∧b<w.heap.size∧∀i x,L[i]? =some x→
  w.cell? ⟨b,off+i*2,none⟩=some (.string x.t)∧w.cell? ⟨b,off+i*2+1,none⟩=some (.string x.i)
theorem UL.up {w w':World}{p:Option Addr}{L:List Ui}(h:UL w p L)(k:Below w.heap.size w w'):UL w' p L:=by
 rcases h with h | ⟨b,off,h1,h2,h3⟩
 · exact .inl h
 · refine .inr ⟨b,off,h1,Nat.lt_of_lt_of_le h2 k.size,fun i x hx=>?_⟩
   have q:∀o,w'.cell? ⟨b,o,none⟩=w.cell? ⟨b,o,none⟩:=fun o=>k.cell (p:=⟨b,o,none⟩) h2
   simp only[q]
   exact h3 i x hx
theorem UL.at {w:World}{p:Option Addr}{L:List Ui}(h:UL w p L){i:Nat}(hi:i<L.length):∃b off,p=some ⟨b,off,none⟩∧b<w.heap.size∧
 w.cell? ⟨b,off+i*2,none⟩=some (.string L[i].t)∧w.cell? ⟨b,off+i*2+1,none⟩=some (.string L[i].i):=by
 rcases h with rfl | ⟨b,off,h1,h2,h3⟩
 · simp at hi
 · obtain⟨k1,k2⟩:=h3 i _ (List.getElem?_eq_getElem hi)
   exact⟨b,off,h1,h2,k1,k2⟩
def EV (w:World)(v:Value)(e:En):Prop:=
 ∃pu cu pa ca,v= .agg #[.string e.u.t,.string e.u.i,.slice pu e.up.length cu,.slice pa e.nd.length ca]∧UL w pu e.up∧NL w pa e.nd∧UOk e.u∧(∀x∈e.up,UOk x)∧e.up.length≤cu∧cu≤maxLen∧e.nd.length≤ca∧ca≤maxLen
theorem EV.up {w w':World}{v:Value}{e:En}(h:EV w v e)(k:Below w.heap.size w w'):EV w' v e:=by
 obtain⟨pu,cu,pa,ca,h1,h2,h3,h4⟩:=h
 exact⟨pu,cu,pa,ca,h1,h2.up k,h3.up k,h4⟩
def EL (w:World)(p:Option Addr)(es:List En):Prop:=
 es=[]∨∃b off,p=some ⟨b,off,none⟩∧b<w.heap.size∧∀i e,es[i]? =some e→
  ∃pu cu pa ca,EV w (.agg #[.string e.u.t,.string e.u.i,.slice pu e.up.length cu,.slice pa e.nd.length ca]) e∧
  w.cell? ⟨b,off+i*4,none⟩=some (.string e.u.t)∧w.cell? ⟨b,off+i*4+1,none⟩=some (.string e.u.i)∧
  w.cell? ⟨b,off+i*4+2,none⟩=some (.slice pu e.up.length cu)∧w.cell? ⟨b,off+i*4+3,none⟩=some (.slice pa e.nd.length ca)
theorem EL.up {w w':World}{p:Option Addr}{es:List En}(h:EL w p es)(k:Below w.heap.size w w'):EL w' p es:=by
 rcases h with h | ⟨b,off,h1,h2,h3⟩
 · exact .inl h
 · refine .inr ⟨b,off,h1,Nat.lt_of_lt_of_le h2 k.size,fun i x hx=>?_⟩
   obtain⟨pu,cu,pa,ca,q0,q1⟩:=h3 i x hx
   have q:∀o,w'.cell? ⟨b,o,none⟩=w.cell? ⟨b,o,none⟩:=fun o=>k.cell (p:=⟨b,o,none⟩) h2
   refine⟨pu,cu,pa,ca,q0.up k,?_⟩
   simp only[q]
   exact q1
theorem EL.at {w:World}{p:Option Addr}{es:List En}(h:EL w p es){i:Nat}(hi:i<es.length):∃b off pu cu pa ca,p=some ⟨b,off,none⟩∧b<w.heap.size∧
 EV w (.agg #[.string es[i].u.t,.string es[i].u.i,.slice pu es[i].up.length cu,.slice pa es[i].nd.length ca]) es[i]∧UL w pu es[i].up∧NL w pa es[i].nd∧UOk es[i].u∧(∀x∈es[i].up,UOk x)∧
 es[i].up.length≤cu∧cu≤maxLen∧es[i].nd.length≤ca∧ca≤maxLen∧
 w.cell? ⟨b,off+i*4,none⟩=some (.string es[i].u.t)∧w.cell? ⟨b,off+i*4+1,none⟩=some (.string es[i].u.i)∧
 w.cell? ⟨b,off+i*4+2,none⟩=some (.slice pu es[i].up.length cu)∧w.cell? ⟨b,off+i*4+3,none⟩=some (.slice pa es[i].nd.length ca):=by
 rcases h with rfl | ⟨b,off,h1,h2,h3⟩
 · simp at hi
 · obtain⟨pu,cu,pa,ca,q0,q1,q2,q3,q4⟩:=h3 i _ (List.getElem?_eq_getElem hi)
   have q0':=q0
   obtain⟨pu',cu',pa',ca',e0,k1,k2,k3,k4,k5,k6,k7,k8⟩:=q0'
   simp at e0
   obtain⟨⟨rfl,rfl⟩,rfl,rfl⟩:=e0
   exact⟨b,off,pu,cu,pa,ca,h1,h2,q0,k1,k2,k3,k4,k5,k6,k7,k8,q1,q2,q3,q4⟩
def klit (u:Ui):Lit:=.string (keyBytes [.string u.t.data.toList,.string u.i.data.toList])
theorem Tryz.laidOutU:laidOutB Tryz.prog=true:=by kernel_rfl
theorem uid_law:Keyed Tryz.prog 24:=Keyed.of_law (deep_law_laid Tryz.laidOutU (m:=2) (by omega) (of_decide_eq_true (by kernel_rfl)) (by kernel_rfl) (by kernel_rfl))
theorem Tryz.keyTypeU:Tryz.prog.keyType 24=true:=by kernel_rfl
theorem Tryz.cellsU:Tryz.prog.cellsOf 24=2:=by kernel_rfl
theorem Tryz.cellsS:Tryz.prog.cellsOf 9=1:=by kernel_rfl
set_option maxRecDepth 100000 in
theorem Tryz.typesS:0<Tryz.prog.types.size:=of_decide_eq_true (by kernel_rfl)
theorem keyOf_two {P:Program}{k s:TypeId}{f0 f1:Field}(hk:P.underlying k=some (.struct #[f0,f1]))(hs:P.underlying s=some .string)(hkt:P.keyType k=true)(hck:P.cellsOf k=2)(hcs:P.cellsOf s=1)(hz:0<P.types.size)
 (h0:f0.type=s) (h1:f1.type=s) (o0:f0.offset=0) (o1:f1.offset=1) (n0:(f0.name != "_")=true) (n1:(f1.name != "_")=true) (u:Ui):
 (UOk u→keyOf P k (uV u)=some (klit u)):=by
 intro h
 obtain⟨n,hn⟩:∃n,P.types.size=n+1:=⟨P.types.size-1,by omega⟩
 unfold keyOf
 rw[hk]
 simp only[hkt,uV,Value.formed,hk,hck,hn]
 simp[Program.keyLits,hk,hck,h0,h1,o0,o1,hs,hcs,h.1,h.2,klit,Value.cells]
 simp only[bne_iff_ne,ne_eq]at n0 n1
 exact⟨n0,n1⟩
theorem keyOf_two_inv {P:Program}{k s:TypeId}{f0 f1:Field}(hk:P.underlying k=some (.struct #[f0,f1]))(hs:P.underlying s=some .string)(hkt:P.keyType k=true)(hck:P.cellsOf k=2)(hcs:P.cellsOf s=1)(hz:0<P.types.size)
 (h0:f0.type=s) (h1:f1.type=s) (o0:f0.offset=0) (o1:f1.offset=1) (n0:(f0.name != "_")=true) (n1:(f1.name != "_")=true) {v:Value} {l:Lit} (h:keyOf P k v=some l):∃u,v=uV u∧UOk u∧l=klit u:=by
 obtain⟨n,hn⟩:∃n,P.types.size=n+1:=⟨P.types.size-1,by omega⟩
 unfold keyOf at h
 rw[hk]at h
 simp only[hkt,Bool.true_and]at h
 split at h
 · rename_i hf
   cases v<;>simp[Value.formed,hk,hck]at hf
   rename_i cs
   match cs,hf with
   | ⟨[c0,c1]⟩,_=>
     simp only[bne_iff_ne,ne_eq]at n0 n1
     simp[Program.keyLits,hn,hk,hck,h0,h1,o0,o1,n0,n1,hs,hcs,Value.cells]at h
     cases c0 with
     | string s=>
       by_cases hs:s.size≤maxLen
       · cases c1 with
         | string t=>
           by_cases ht:t.size≤maxLen
           · simp[hs,ht]at h
             exact⟨⟨s,t⟩,rfl,⟨hs,ht⟩,by rw[←h];rfl⟩
           · simp[hs,ht]at h
         | _=>simp[hs]at h
       · simp[hs]at h
     | _=>simp at h
 · cases h
theorem keyOf_uid {u:Ui}(h:UOk u):keyOf Tryz.prog 24 (uV u)=some (klit u):=
 keyOf_two Tryz.underlying24 Tryz.underlying9 Tryz.keyTypeU Tryz.cellsU Tryz.cellsS Tryz.typesS rfl rfl rfl rfl (by decide) (by decide) u h
theorem keyOf_uid_inv {v:Value}{l:Lit}(h:keyOf Tryz.prog 24 v=some l):∃u,v=uV u∧UOk u∧l=klit u:=
 keyOf_two_inv Tryz.underlying24 Tryz.underlying9 Tryz.keyTypeU Tryz.cellsU Tryz.cellsS Tryz.typesS rfl rfl rfl rfl (by decide) (by decide) h
theorem klit_inj {u v:Ui}(hu:UOk u)(hv:UOk v)(h:klit u=klit v):u=v:=
 uV_inj (uid_law.inj (keyOf_uid hu) (by rw[h];exact keyOf_uid hv))
theorem klit_key (u:Ui):WideAt.IsKeyLit (klit u):=trivial
def USet (w:World)(b:Nat)(L:List Ui):Prop:=
 ∃D:DataW Unit,w.ownsMap Tryz.prog 24 unitElem b L.length D∧(∀u,UOk u→(Maps.has D (klit u)=true↔u∈L))∧(∀kl,Maps.has D kl=true→∃u∈L,kl=klit u)∧(∀u∈L,UOk u)∧L.Nodup∧Maps.size D=L.length
theorem USet.made (w:World):USet (w.alloc (.map #[] 0)) w.heap.size []:=
 ⟨.map [],World.ownsMap_made w _ _ _,fun u _=>by simp[Maps.has],fun kl h=>by simp[Maps.has]at h,fun u h=>(by cases h),List.nodup_nil,rfl⟩
theorem USet.kept {w w':World}{row:Option Nat}{b:Nat}{L:List Ui}(h:USet w b L)(hg:w.grownBy w' row)(hne:some b≠row):USet w' b L:=by
 obtain⟨D,h1,h2⟩:=h
 exact⟨D,h1.kept hg hne,h2⟩
theorem USet.lt {w:World}{b:Nat}{L:List Ui}(h:USet w b L):b<w.heap.size:=by
 obtain⟨D,h1,_⟩:=h
 exact h1.lt
theorem USet.put {D:DataW Unit}{L:List Ui}{u:Ui}(hD:IsMap D)(ht:Tidy D)(h2:∀u,UOk u→(Maps.has D (klit u)=true↔u∈L))(h3:∀kl,Maps.has D kl=true→∃u∈L,kl=klit u)(h4:∀u∈L,UOk u)(h5:L.Nodup)(h6:Maps.size D=L.length)
 (hu:UOk u) (hn:u∉L) (d:DataW Unit):(∀v,UOk v→(Maps.has (D.put (klit u) d) (klit v)=true↔v∈L++[u]))∧(∀kl,Maps.has (D.put (klit u) d) kl=true→∃v∈L++[u],kl=klit v)∧(∀v∈L++[u],UOk v)∧(L++[u]).Nodup∧Maps.size (D.put (klit u) d)=(L++[u]).length:=by
 have hno:Maps.has D (klit u)=false:=by
  cases hq:Maps.has D (klit u)
  · rfl
  · exact absurd ((h2 u hu).1 hq) hn
 refine⟨fun v hv=>?_,fun kl hk=>?_,fun v hv=>?_,?_,?_⟩
 · by_cases e:v=u
   · subst e
     rw[has_put_same hD (klit_key _)]
     simp
   · rw[has_put_other (fun q=>e (klit_inj hv hu q)),h2 v hv]
     simp[e]
 · by_cases e:kl=klit u
   · exact⟨u,by simp,e⟩
   · rw[has_put_other e]at hk
     obtain⟨v,hv,hk⟩:=h3 kl hk
     exact⟨v,by simp[hv],hk⟩
 · rcases List.mem_append.1 hv with hv | hv
   · exact h4 v hv
   · rw[List.mem_singleton.1 hv];exact hu
 · rw[List.nodup_append]
   exact⟨h5,by simp,fun a ha b hb e=>by rw[List.mem_singleton.1 hb]at e;rw[e]at ha;exact hn ha⟩
 · rw[size_put ht,hno,h6];simp
def heldE (v:Value):Option (DataW Value×List MemPlace):=some (.held v,[])
def EMap (w0 w:World)(b:Nat)(es:List En):Prop:=
 ∃D:DataW Value,w.ownsMap Tryz.prog 24 heldE b es.length D∧(∀kl,Maps.has D kl=true→∃e∈es,kl=klit e.u)∧(∀e∈es,Maps.has D (klit e.u)=true∧UOk e.u∧∃v,EV w0 v e∧∀z,D.atKey (klit e.u) z= .held v)
theorem EMap.made (w0 w:World):EMap w0 (w.alloc (.map #[] 0)) w.heap.size []:=
 ⟨.map [],World.ownsMap_made w _ _ _,fun kl h=>by simp[Maps.has]at h,fun e h=>(by cases h)⟩
theorem EMap.kept {w0 w w':World}{row:Option Nat}{b:Nat}{es:List En}(h:EMap w0 w b es)(hg:w.grownBy w' row)(hne:some b≠row):EMap w0 w' b es:=by
 obtain⟨D,h1,h2⟩:=h
 exact⟨D,h1.kept hg hne,h2⟩
theorem EMap.lt {w0 w:World}{b:Nat}{es:List En}(h:EMap w0 w b es):b<w.heap.size:=by
 obtain⟨D,h1,_⟩:=h
 exact h1.lt
theorem EMap.put {w0:World}{D:DataW Value}{es:List En}{e:En}{v:Value}(hD:IsMap D)(h2:∀kl,Maps.has D kl=true→∃e∈es,kl=klit e.u)(h3:∀e∈es,Maps.has D (klit e.u)=true∧UOk e.u∧∃v,EV w0 v e∧∀z,D.atKey (klit e.u) z= .held v)
 (he:UOk e.u) (hn:∀x∈es,x.u≠e.u) (hv:EV w0 v e):(∀kl,Maps.has (D.put (klit e.u) (.held v)) kl=true→∃x∈es++[e],kl=klit x.u)∧(∀x∈es++[e],Maps.has (D.put (klit e.u) (.held v)) (klit x.u)=true∧UOk x.u∧∃y,EV w0 y x∧∀z,(D.put (klit e.u) (.held v)).atKey (klit x.u) z= .held y):=by
 refine⟨fun kl hk=>?_,fun x hx=>?_⟩
 · by_cases q:kl=klit e.u
   · exact⟨e,by simp,q⟩
   · rw[has_put_other q]at hk
     obtain⟨x,hx,hk⟩:=h2 kl hk
     exact⟨x,by simp[hx],hk⟩
 · rcases List.mem_append.1 hx with hx | hx
   · obtain⟨k1,k2,y,k3,k4⟩:=h3 x hx
     have q:klit x.u≠klit e.u:=fun q=>hn x hx (klit_inj k2 he q)
     exact⟨by rw[has_put_other q];exact k1,k2,y,k3,fun z=>by rw[atKey_put_other q];exact k4 z⟩
   · rw[List.mem_singleton.1 hx]
     exact⟨has_put_same hD (klit_key _) _,he,v,hv,fun z=>atKey_put_same hD (klit_key _) _ _⟩
end Go.Proofs.YtlnhaajjoplafaaGreatDoor
namespace Go.Proofs.YtlnhaajjoplafaaGreatDoor
open Go.RowKit
theorem Tryz.infoUid:(Tryz.prog.info? 24).map (fun i=>(i.zero,i.size,i.bytes))=some (some (.agg #[.string ⟨#[]⟩,.string ⟨#[]⟩]),2,32):=by kernel_rfl
def ucells:List Ui→List Value
 | []=>[]
 | u::r=>.string u.t:: .string u.i::ucells r
theorem ucells_length:∀L:List Ui,(ucells L).length=L.length*2
 | []=>rfl
 | u::r=>by simp only[ucells,List.length_cons,ucells_length r];omega
theorem ucells_append:∀L M:List Ui,ucells (L++M)=ucells L++ucells M
 | [],_=>rfl
 | u::r,M=>by simp[ucells,ucells_append r M]
theorem ucells_one:∀L:List Ui,∀u∈ucells L,u.oneCell'=true
 | [],u,h=>by cases h
 | x::r,u,h=>by
   simp only[ucells,List.mem_cons]at h
   rcases h with rfl | rfl | h
   · rfl
   · rfl
   · exact ucells_one r u h
theorem ucells_at:∀(L:List Ui) (i:Nat) (x:Ui),L[i]? =some x→(ucells L)[i*2]? =some (.string x.t)∧(ucells L)[i*2+1]? =some (.string x.i)
 | [],i,x,h=>by simp at h
 | y::r,0,x,h=>by simp at h;subst h;exact⟨rfl,rfl⟩
 | y::r,i+1,x,h=>by
   have e:(i+1)*2=i*2+1+1:=by omega
   rw[e]
   simp only[ucells,List.getElem?_cons_succ]at h ⊢
   exact ucells_at r i x h
theorem ucells_inv:∀(L:List Ui) (j:Nat) (v:Value),(ucells L)[j]? =some v→∃i x,L[i]? =some x∧((j=i*2∧v= .string x.t)∨(j=i*2+1∧v= .string x.i))
 | [],j,v,h=>by simp[ucells]at h
 | y::r,0,v,h=>by simp[ucells]at h;exact⟨0,y,rfl,.inl ⟨rfl,h.symm⟩⟩
 | y::r,1,v,h=>by simp[ucells]at h;exact⟨0,y,rfl,.inr ⟨rfl,h.symm⟩⟩
 | y::r,j+2,v,h=>by
   simp only[ucells,List.getElem?_cons_succ]at h
   obtain⟨i,x,h1,h2⟩:=ucells_inv r j v h
   refine⟨i+1,x,by simpa using h1,?_⟩
   rcases h2 with⟨h2,h3⟩ | ⟨h2,h3⟩
   · exact .inl ⟨by omega,h3⟩
   · exact .inr ⟨by omega,h3⟩
theorem UL.cells {w:World}{b off:Nat}{M:List Ui}(h:UL w (some ⟨b,off,none⟩) M)(j:Nat)(u:Value)(hu:(ucells M)[j]? =some u):w.cell? ⟨b,off+j,none⟩=some u:=by
 obtain⟨i,x,h1,h2⟩:=ucells_inv M j u hu
 rcases h with rfl | ⟨b',off',e,_,h⟩
 · simp at h1
 · simp at e
   obtain⟨rfl,rfl⟩:=e
   obtain⟨k1,k2⟩:=h i x h1
   rcases h2 with⟨rfl,rfl⟩ | ⟨rfl,rfl⟩
   · exact k1
   · rw[show off+(i*2+1)=off+i*2+1 by omega];exact k2
def OU (w:World)(base:Nat)(v:Value)(L:List Ui):Prop:=w.ownsRow base 24 2 v L.length (ucells L)
theorem OU.nil (w:World)(base:Nat):OU w base (.slice none 0 0) []:=World.ownsRow_nil _ _ _ _
theorem OU.slice {w:World}{base:Nat}{v:Value}{L:List Ui}(h:OU w base v L):∃q c,v= .slice q L.length c∧UL w q L∧L.length≤c∧c≤maxLen∧((L=[]∧v= .slice none 0 0)∨∃g,q=some ⟨g,0,none⟩∧base≤g∧g<w.heap.size):=by
 rcases h.2 with⟨rfl,hn⟩ | ⟨g,cap,cur,rfl,hb,hgg,hle,hm,hsz,htk⟩
 · obtain rfl:=List.eq_nil_of_length_eq_zero hn
   exact⟨none,0,rfl,.inl rfl,Nat.le_refl _,Nat.zero_le _,.inl ⟨rfl,rfl⟩⟩
 · have hlt:=(Array.getElem?_eq_some_iff.1 hgg).1
   refine⟨some ⟨g,0,none⟩,cap,rfl,.inr ⟨g,0,rfl,hlt,fun i x hx=>?_⟩,hle,hm,.inr ⟨g,rfl,hb,hlt⟩⟩
   have hi:i<L.length:=(List.getElem?_eq_some_iff.1 hx).1
   obtain⟨k1,k2⟩:=ucells_at L i x hx
   have hc:∀j,j<L.length*2→w.cell? ⟨g,0+j,none⟩=(ucells L)[j]? :=by
    intro j hj
    rw[←htk,List.getElem?_take_of_lt hj]
    simp[World.cell?, hgg]
   rw[←k1,←k2]
   exact⟨hc (i*2) (by omega),hc (i*2+1) (by omega)⟩
theorem OU.below {w w':World}{base:Nat}{v:Value}{L:List Ui}(h:OU w base v L)(k:Below w.heap.size w w'):OU w' base v L:=by
 refine⟨h.1,?_⟩
 rcases h.2 with hn | ⟨g,cap,cur,rfl,hb,hgg,rest⟩
 · exact .inl hn
 · exact .inr ⟨g,cap,cur,rfl,hb,(k.block g (Array.getElem?_eq_some_iff.1 hgg).1).trans hgg,rest⟩
theorem OU.own {w:World}{base:Nat}{v:Value}{L:List Ui}(h:OU w base v L):∀g,v.ownBlock=some g→base≤g:=by
 intro g hg
 rcases h.2 with⟨rfl,_⟩ | ⟨g',cap,cur,rfl,hb,_⟩
 · simp[Value.ownBlock]at hg
 · simp[Value.ownBlock]at hg
   subst hg
   exact hb
theorem UL.one (w:World)(u:Ui):UL (w.alloc (.cells #[.string u.t,.string u.i] 24)) (some ⟨w.heap.size,0,none⟩) [u]:=by
 refine .inr ⟨w.heap.size,0,rfl,by simp,fun i x hx=>?_⟩
 rcases i with _ | i
 · simp at hx
   subst hx
   simp[go_sem]
 · simp at hx
theorem OU.one (w:World)(u:Ui):OU (w.alloc (.cells #[.string u.t,.string u.i] 24)) w.heap.size (.slice (some ⟨w.heap.size,0,none⟩) 1 1) [u]:=by
 refine⟨rfl,.inr ⟨w.heap.size,1, #[.string u.t,.string u.i],rfl,Nat.le_refl _,(MapKept.heap_alloc w _).1,Nat.le_refl _,by unfold maxLen;omega,rfl,rfl⟩⟩
theorem OU.mono {w:World}{base base':Nat}{v:Value}{L:List Ui}(h:OU w base v L)(hb:base'≤base):OU w base' v L:=
 ⟨h.1,h.2.imp id (fun⟨g,cap,cur,h1,h2,h3⟩=>⟨g,cap,cur,h1,Nat.le_trans hb h2,h3⟩)⟩
theorem OU.two (w:World)(u:Ui):OU ((w.alloc (.cells #[.string u.t,.string u.i] 24)).alloc (.cells #[.string u.t,.string u.i] 24)) w.heap.size (.slice (some ⟨w.heap.size+1,0,none⟩) 1 1) [u]:=by
 have h:=(OU.one (w.alloc (.cells #[.string u.t,.string u.i] 24)) u).mono (base':=w.heap.size) (by simp)
 simpa using h
theorem append_uid (w:World){ops:Array Oper}{rest:List Oper}{o:Oper}{a:Act}{Q:Exit→Act→World→Prop}(hgd:o.guard=none)(s x:Operand)
 (ho:o.op= .call { callee:=.builtin .append,args:= #[s,x],argTypes:= #[87,87] })
 (base:Nat) (v:Value) (L:List Ui) (hs:a.eval s=v) (hown:OU w base v L) (M:List Ui) (n:Nat) (hn:M.length=n) (b off c:Nat) (hN:UL w (some ⟨b,off,none⟩) M)
 (hx:a.eval x= .slice (some ⟨b,off,none⟩) n c) (hlen:L.length+M.length≤1099511627776) (hbase:base≤w.heap.size)
 (h:∀v' w',OU w' base v' (L++M)→w.grownBy w' v.ownBlock→Below base w w'→wpList Tryz.prog ops Q rest (a.put o.dst v') w'):wpList Tryz.prog ops Q (o::rest) a w:=by
 subst hn
 obtain⟨i0,hi,hz0,hz1,hz2⟩:=info_parts Tryz.infoUid
 refine wpList_append_own _ hgd s x 87 ho base 24 i0 _ 2 32 Tryz.underlying87 hi hz0 hz1 hz2 rfl (by decide) v L.length (ucells L) hs hown ⟨b,off,none⟩ M.length c (ucells M) hx (ucells_length M) ?_ (ucells_one _) (by unfold maxLen;omega) (by omega) hbase ?_
 · intro j u hu
   have hadd:(⟨b,off,none⟩:Addr).add j=⟨b,off+j,none⟩:=by unfold Addr.add;split<;>simp_all
   rw[hadd];exact hN.cells j u hu
 · intro v' w' h1 h2 _
   refine h v' w' ?_ h2 ((Below.refl base w).grown h2 hbase (fun k hk=>hown.own k hk))
   unfold OU
   rw[ucells_append,List.length_append];exact h1
end Go.Proofs.YtlnhaajjoplafaaGreatDoor
