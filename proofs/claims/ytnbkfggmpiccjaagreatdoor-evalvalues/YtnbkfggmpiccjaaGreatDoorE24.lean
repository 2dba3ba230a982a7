import Derived.Test.YtnbkfggmpiccjaaGreatDoorE23
import Derived.Laws.AppendOwnNone
set_option linter.unusedVariables false
set_option maxHeartbeats 12000000
namespace Go.Proofs.YtnbkfggmpiccjaaGreatDoor
open Go.RowKit
theorem Kept.mono {base B:Nat}{e:TypeId}{w w':World}(h:Kept base e w w')(hB:B≤base):Kept B e w w':=⟨h.bel.mono hB,h.typed⟩
def OLB (w:World)(base B:Nat)(v:Value)(vs:List (List Nd)):Prop:=
 ∃xs,Row1 w base 25 v xs∧xs.length=vs.length∧∀(i:Nat) u L,xs[i]? =some u→vs[i]? =some L→∃q c,u= .slice q L.length c∧NT w B q L∧L.length≤c∧c≤maxLen
theorem OLB.nil (w:World)(base B:Nat):OLB w base B (.slice none 0 0) []:=⟨[],Row1.nil _ _ _,rfl,fun i u L h=>by simp at h⟩
theorem OLB.kept {w w':World}{base B:Nat}{e:TypeId}{v:Value}{vs:List (List Nd)}(h:OLB w base B v vs)(k:Kept base e w w')(hB:B≤base)(h1:25≠e)(h2:53≠e):OLB w' base B v vs:=by
 obtain⟨xs,hr,hl,he⟩:=h
 exact⟨xs,hr.kept k h1,hl,fun i u L hu hL=>by
  obtain⟨q,c,e1,e2,e3⟩:=he i u L hu hL
  exact⟨q,c,e1,e2.kept (k.mono hB) h2,e3⟩⟩
theorem OLB.below {w w':World}{base B:Nat}{v:Value}{vs:List (List Nd)}(h:OLB w base B v vs)(k:Below w.heap.size w w')(hB:B≤base)(hb:base≤w.heap.size):OLB w' base B v vs:=
 h.kept (e:=312) (Kept.of_below k hb) hB (by decide) (by decide)
theorem Row1.lower {w:World}{base b':Nat}{e:TypeId}{v:Value}{xs:List Value}(h:Row1 w base e v xs)(hb:b'≤base):Row1 w b' e v xs:=by
 refine⟨h.1,?_⟩
 rcases h.2 with hn | ⟨g,cap,cur,e1,hg,rest⟩
 · exact .inl hn
 · exact .inr ⟨g,cap,cur,e1,by omega,rest⟩
theorem OLB.lower {w:World}{base b' B:Nat}{v:Value}{vs:List (List Nd)}(h:OLB w base B v vs)(hb:b'≤base):OLB w b' B v vs:=by
 obtain⟨xs,hr,hl,he⟩:=h
 exact⟨xs,hr.lower hb,hl,he⟩
theorem OLB.lists {w:World}{base B:Nat}{v:Value}{vs:List (List Nd)}(h:OLB w base B v vs):∃q c,v= .slice q vs.length c∧LL w q vs∧vs.length≤c∧c≤maxLen:=by
 obtain⟨xs,hr,hl,he⟩:=h
 obtain⟨q,c,rfl,h1,h2,h3⟩:=hr.slice
 refine⟨q,c,by rw[hl],?_,by omega,h2⟩
 rcases h3 with rfl | ⟨g,rfl,ht,_,hc⟩
 · exact .inl (List.eq_nil_of_length_eq_zero (by rw[←hl];rfl))
 · refine .inr ⟨g,0,rfl,ht.lt,fun i L hL=>?_⟩
   have hi:i<xs.length:=by rw[hl];exact(List.getElem?_eq_some_iff.1 hL).1
   obtain⟨q',c',e1,e2,e3⟩:=he i xs[i] L (List.getElem?_eq_getElem hi) hL
   refine⟨q',c',?_,e2.1,e3⟩
   rw[Nat.zero_add,←e1]
   exact hc i _ (List.getElem?_eq_getElem hi)
theorem OLB.at {w:World}{base B:Nat}{p:Option Addr}{n c0:Nat}{vs:List (List Nd)}(h:OLB w base B (.slice p n c0) vs){i:Nat}(hi:i<vs.length):∃g q c,p=some ⟨g,0,none⟩∧g<w.heap.size∧w.cell? ⟨g,i,none⟩=some (.slice q vs[i].length c)∧NT w B q vs[i]∧vs[i].length≤c∧c≤maxLen:=by
 obtain⟨xs,hr,hl,he⟩:=h
 obtain⟨q,c,e,h1,h2,h3⟩:=hr.slice
 rcases h3 with rfl | ⟨g,rfl,ht,_,hc⟩
 · simp at hl;omega
 · cases e
   obtain⟨q',c',e1,e2,e3⟩:=he i xs[i] vs[i] (List.getElem?_eq_getElem (by omega)) (List.getElem?_eq_getElem hi)
   exact⟨g,q',c',rfl,ht.lt,by rw[←e1];exact hc i _ (List.getElem?_eq_getElem (by omega)),e2,e3⟩
theorem append_listB (w:World){ops:Array Oper}{rest:List Oper}{o:Oper}{a:Act}{Q:Exit→Act→World→Prop}(hgd:o.guard=none)(s x:Operand)
 (ho:o.op= .call { callee:=.builtin .append,args:= #[s,x],argTypes:= #[67,67] })
 (base B:Nat) (hB:B≤base) (v:Value) (vs:List (List Nd)) (hs:a.eval s=v) (hown:OLB w base B v vs) (L:List Nd) (n:Nat) (hn:L.length=n) (q:Option Addr) (c:Nat) (hN:NT w B q L) (hlc:n≤c) (hcm:c≤maxLen)
 (hx:a.eval x= .slice (some ⟨w.heap.size,0,none⟩) 1 1) (hlen:vs.length+1≤1099511627776) (hbase:base≤w.heap.size)
 (h:∀v' w',OLB w' base B v' (vs++[L])→Kept base 25 w w'→wpList Tryz.prog ops Q rest (a.put o.dst v') w'):wpList Tryz.prog ops Q (o::rest) a (w.alloc (.cells #[.slice q n c] 25)):=by
 subst hn
 obtain⟨xs,hr,hl,he⟩:=hown
 refine append_cell w hgd s x 67 25 ho Tryz.underlying67 (.slice none 0 0) 24 Tryz.infoList rfl base v xs hs hr (.slice q L.length c) rfl hx (by unfold maxLen;omega) (by omega) hbase ?_
 intro v' w' h1 k
 refine h v' w' ⟨xs++[.slice q L.length c],h1,by simp[hl],fun i u L' hu hL'=>?_⟩ k
 by_cases hi:i<xs.length
 · rw[List.getElem?_append_left hi]at hu
   rw[List.getElem?_append_left (by omega)]at hL'
   obtain⟨q',c',e1,e2,e3⟩:=he i u L' hu hL'
   exact⟨q',c',e1,e2.kept (k.mono hB) (by decide),e3⟩
 · have hi2:i=xs.length:=by
    have:=(List.getElem?_eq_some_iff.1 hu).1
    simp at this;omega
   subst hi2
   rw[List.getElem?_append_right (Nat.le_refl _)]at hu
   rw[List.getElem?_append_right (by omega),hl]at hL'
   simp at hu hL'
   subst hu hL'
   exact⟨q,c,rfl,hN.kept (k.mono hB) (by decide),hlc,hcm⟩
end Go.Proofs.YtnbkfggmpiccjaaGreatDoor
