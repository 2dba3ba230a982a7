import Derived.Test.YtlnhaajjoplafaaGreatDoorT35
import Derived.Lib.JoinLaws
import Derived.Lib.AppendZeros
import Derived.Deep.AppendSrc
import Derived.Laws.IdiomCopy
import Derived.Test.YtlnhaajjoplafaaGreatDoorT11
set_option linter.unusedVariables false
set_option maxHeartbeats 12000000
namespace Go.Proofs.YtlnhaajjoplafaaGreatDoor
open Go.RowKit
def SlV (v:Value):Prop:=∃q n c,v= .slice q n c
def OV (w:World)(base:Nat)(v:Value)(vs:List (List Nd)):Prop:=
 (v= .slice none 0 0∧vs=[])∨∃(g cap:Nat) (cur:Array Value),v= .slice (some ⟨g,0,none⟩) vs.length cap∧base≤g∧w.heap[g]? =some (.cells cur 30 (0,0))∧vs.length≤cap∧cap≤maxLen∧cur.size=cap∧(∀c∈cur.toList,SlV c)∧
  ∀(i:Nat) (L:List Nd),vs[i]? =some L→∃(q:Option Addr) (c:Nat),cur[i]? =some (Value.slice q L.length c)∧NL w q L∧L.length≤c∧c≤maxLen∧L≠[]
theorem OV.nil (w:World)(base:Nat):OV w base (.slice none 0 0) []:=.inl ⟨rfl,rfl⟩
theorem OV.slice {w:World}{base:Nat}{v:Value}{vs:List (List Nd)}(h:OV w base v vs):∃q c,v= .slice q vs.length c∧LL w q vs∧vs.length≤c∧c≤maxLen:=by
 rcases h with⟨rfl,rfl⟩ | ⟨g,cap,cur,rfl,hb,hg,hl,hm,hz,hs,he⟩
 · exact⟨none,0,rfl,.inl rfl,Nat.le_refl _,Nat.zero_le _⟩
 · refine⟨some ⟨g,0,none⟩,cap,rfl,.inr ⟨g,0,rfl,(Array.getElem?_eq_some_iff.1 hg).1,fun i L hL=>?_⟩,hl,hm⟩
   obtain⟨q,c,h1,h2,h3,h4,_⟩:=he i L hL
   exact⟨q,c,by simp[World.cell?, hg,h1],h2,h3,h4⟩
theorem OV.up {w w':World}{base:Nat}{v:Value}{vs:List (List Nd)}(h:OV w base v vs)(k:Below w.heap.size w w'):OV w' base v vs:=by
 rcases h with h | ⟨g,cap,cur,rfl,hb,hg,hl,hm,hz,hs,he⟩
 · exact .inl h
 · refine .inr ⟨g,cap,cur,rfl,hb,(k.block g (Array.getElem?_eq_some_iff.1 hg).1).trans hg,hl,hm,hz,hs,fun i L hL=>?_⟩
   obtain⟨q,c,h1,h2,h3⟩:=he i L hL
   exact⟨q,c,h1,h2.up k,h3⟩
theorem OV.bx {E:EvEnv}{w w':World}{B k base:Nat}{v:Value}{vs:List (List Nd)}(h:OV w base v vs)(hs:AS E w B k)(hx:BX B w w'):OV w' base v vs:=by
 rcases h with h | ⟨g,cap,cur,rfl,hb,hg,hl,hm,hz,hsl,he⟩
 · exact .inl h
 · have hne:g≠B:=by
    rintro rfl
    have:=hs.blk
    rw[hg]at this
    injection this with this
    injection this with _ h2 _
    exact absurd h2 (by decide)
   refine .inr ⟨g,cap,cur,rfl,hb,(hx.block g (Array.getElem?_eq_some_iff.1 hg).1 hne).trans hg,hl,hm,hz,hsl,fun i L hL=>?_⟩
   obtain⟨q,c,h1,h2,h3,h4,h5⟩:=he i L hL
   exact⟨q,c,h1,h2.bx (hs.apart h2 h5) hx,h3,h4,h5⟩
theorem NL.off {w:World}{g:Nat}{cur:Array Value}{T:TypeId}{fr:Nat×Nat}(hg:w.heap[g]? =some (.cells cur T fr))(hs:∀c∈cur.toList,SlV c){q:Option Addr}{L:List Nd}(h:NL w q L)(hne:L≠[]):∀d,q=some d→d.block≠g:=by
 rintro d rfl e
 rcases h with h | ⟨b,off,h1,h2,h3⟩
 · exact hne h
 · cases h1
   obtain⟨x,r,rfl⟩:=List.exists_cons_of_ne_nil hne
   obtain⟨d0,_⟩:=h3 0 x rfl
   have eb:b=g:=e
   subst eb
   simp only[World.cell?, hg]at d0
   have hm:Value.int .i64 x.op∈cur.toList:=by
    have:cur[off+0*4]? =some (.int .i64 x.op):=by simpa using d0
    exact Array.mem_toList_iff.2 (Array.mem_of_getElem? this)
   obtain⟨_,_,_,e⟩:=hs _ hm
   cases e
theorem NL.setc {w:World}{q:Option Addr}{L:List Nd}(h:NL w q L){g i:Nat}(hn:∀d,q=some d→d.block≠g)(u:Value):NL (w.setCell ⟨g,i,none⟩ u) q L:=by
 rcases h with h | ⟨b,off,h1,h2,h3⟩
 · exact .inl h
 · refine .inr ⟨b,off,h1,by simpa using h2,fun j x hx=>?_⟩
   have hb:b≠g:=hn ⟨b,off,none⟩ h1
   have q:∀o,(w.setCell ⟨g,i,none⟩ u).cell? ⟨b,o,none⟩=w.cell? ⟨b,o,none⟩:=fun o=>World.cell?_setCell_other _ _ _ _ (fun e=>hb (congrArg Addr.block e).symm)
   simp only[q]
   exact h3 j x hx
theorem zero_sl (k:Nat):∀c∈(Builtin.zeroCells (Value.slice none 0 0).cells k).toList,SlV c:=by
 intro c hc
 have hz:(Value.slice none 0 0).cells= #[.slice none 0 0]:=rfl
 rw[hz]at hc
 unfold Builtin.zeroCells at hc
 simp only[Array.toList_map,List.mem_map]at hc
 obtain⟨i,_,rfl⟩:=hc
 exact⟨none,0,0,by simp[Nat.mod_one]⟩
theorem append_val (w:World){ops:Array Oper}{rest:List Oper}{o:Oper}{a:Act}{Q:Exit→Act→World→Prop}(hgd:o.guard=none)(s x:Operand)
 (ho:o.op= .call { callee:=.builtin .append,args:= #[s,x],argTypes:= #[57,57] })
 (base:Nat) (v:Value) (vs:List (List Nd)) (hs:a.eval s=v) (hown:OV w base v vs) (L:List Nd) (q:Option Addr) (c:Nat) (hN:NL w q L) (hlc:L.length≤c) (hcm:c≤maxLen) (hne:L≠[])
 (hx:a.eval x= .slice (some ⟨w.heap.size,0,none⟩) 1 1) (hlen:vs.length+1≤1000000) (hbase:base≤w.heap.size)
 (h:∀v' w',OV w' base v' (vs++[L])→Below base w w'→(∀(b:Nat) (f:TypeId),f≠30→(∃(cur:Array Value) (fr:Nat×Nat),w.heap[b]? =some (Obj.cells cur f fr))→w'.heap[b]? =w.heap[b]?)→wpList Tryz.prog ops Q rest (a.put o.dst v') w'):wpList Tryz.prog ops Q (o::rest) a (w.alloc (.cells #[.slice q L.length c] 30)):=by
 obtain⟨i0,hi0,hz0,hz1,hz2⟩:=info_parts Tryz.infoList
 have hbA:Below w.heap.size w (w.alloc (.cells #[.slice q L.length c] 30)):=(Below.refl _ _).alloc (Nat.le_refl _) _
 have hAs:(w.alloc (.cells #[.slice q L.length c] 30)).heap.size=w.heap.size+1:=by simp
 have hx0:∀j u,([.slice q L.length c]:List Value)[j]? =some u→(w.alloc (.cells #[.slice q L.length c] 30)).cell? ((⟨w.heap.size,0,none⟩:Addr).add j)=some u:=by
  intro j u hj
  match j,hj with
  | 0,hj=>simp at hj;subst hj;simp[Addr.add]
 have hNA:=hN.up hbA
 have hoA:=hown.up hbA
 generalize w.alloc (.cells #[.slice q L.length c] 30)=W at *
 have hsrc:Src Tryz.prog 1 57 (.slice (some ⟨w.heap.size,0,none⟩) 1 1) 1 [.slice q L.length c] W:=Src.ofSlice W Tryz.underlying57 ⟨w.heap.size,0,none⟩ 1 1 [.slice q L.length c] rfl hx0 (by intro u hu;simp at hu;subst hu;rfl)
 have hat:∀(i:Nat) M,(vs++[L])[i]? =some M→(i<vs.length∧vs[i]? =some M)∨(i=vs.length∧M=L):=by
  intro i M hM
  by_cases hi:i<vs.length
  · rw[List.getElem?_append_left hi]at hM;exact .inl ⟨hi,hM⟩
  · rw[List.getElem?_append_right (by omega)]at hM
    have h0:i-vs.length=0:=by
     have:=(List.getElem?_eq_some_iff.1 hM).1;simp at this;omega
    rw[h0]at hM
    simp at hM
    exact .inr ⟨by omega,hM.symm⟩
 have grow:∀(bs:Option Addr) (cap:Nat) (olds:List Value),v= .slice bs vs.length cap→cap<vs.length+1→olds.length=vs.length→(∀c∈olds,SlV c)→(∀(i:Nat) (M:List Nd),vs[i]? =some M→∃(q:Option Addr) (c:Nat),olds[i]? =some (Value.slice q M.length c)∧NL W q M∧M.length≤c∧c≤maxLen∧M≠[])→
  (Builtin.firstCells i0.size vs.length (.slice bs vs.length cap)).run Tryz.prog W.drew= .ok olds.toArray W.drew→wpList Tryz.prog ops Q (o::rest) a W:=by
  intro bs cap olds hv hcap holn hols hat2 hold
  have hsrc2:Src Tryz.prog i0.size 57 (.slice (some ⟨w.heap.size,0,none⟩) 1 1) 1 [.slice q L.length c] W:=by rw[hz1];exact hsrc
  have hr:=fun ty=>run_append_grow_src (P:=Tryz.prog) W 57 57 ty 30 i0 _ Tryz.underlying57 hi0 hz0 bs vs.length cap olds hold _ 1 _ hsrc2 hcap (by omega) (by rw[hz2];exact growslice_fits hcap (by omega))
  refine Lib.wpList_append_run W hgd s x 57 57 ho _ _ (hs.trans hv) hx _ _ (hr _) ?_
  have hG1:=grownCap_ge W (vs.length+1) cap 30
  have hG2:=grownCap_le_maxLen W (vs.length+1) cap 30 (by unfold maxLen;omega)
  generalize grownCap W (vs.length+1) cap 30=G at *
  generalize hRow:(olds++[Value.slice q L.length c]).toArray++Builtin.zeroCells (Value.slice none 0 0).cells (G-(vs.length+1))=row
  have hb2:Below W.heap.size W (W.drew.alloc (.cells row 30)):=((Below.refl _ _).drew).alloc (Nat.le_refl _) _
  have hrs:row.size=G:=by
   rw[←hRow]
   have hz:(Value.slice none 0 0).cells= #[.slice none 0 0]:=rfl
   simp[Builtin.zeroCells,hz,holn]
   omega
  have hri:∀i,i<vs.length+1→row[i]? =(olds++[Value.slice q L.length c])[i]? :=by
   intro i hi
   rw[←hRow,Array.getElem?_append_left (by simp[holn];omega)]
   simp
  refine h _ _ (.inr ⟨W.heap.size,G,row,by simp,by rw[hAs];omega,heap_alloc_new W.drew _,by simpa using hG1,hG2,hrs,?_,fun i M hM=>?_⟩) ((hbA.trans (hb2.mono hbA.size)).mono hbase) (fun b f _ hb=>?_)
  · intro u hu
    rw[←hRow]at hu
    simp only[Array.toList_append,List.mem_append]at hu
    rcases hu with(hu | hu) | hu
    · exact hols u hu
    · simp at hu;subst hu;exact⟨_,_,_,rfl⟩
    · exact zero_sl _ u hu
  · rcases hat i M hM with⟨hi,hM⟩ | ⟨rfl,rfl⟩
    · obtain⟨q',c',h1,h2,h3⟩:=hat2 i M hM
      exact⟨q',c',by rw[hri i (by omega),List.getElem?_append_left (by omega)];exact h1,h2.up hb2,h3⟩
    · exact⟨q,c,by rw[hri _ (by omega),List.getElem?_append_right (by omega),holn];simp,hNA.up hb2,hlc,hcm,hne⟩
  · obtain⟨cur,fr,hb⟩:=hb
    have hlt:=(Array.getElem?_eq_some_iff.1 hb).1
    exact(hb2.block b (by omega)).trans (hbA.block b hlt)
 rcases hoA with⟨hv,hvs⟩ | ⟨g,cap,cur,hv,hb,hg,hl,hm,hz,hsl,he⟩
 · subst hvs
   refine grow none 0 [] hv (by simp) rfl (by simp) (by simp) ?_
   exact run_firstCells_none W.drew i0.size 0 0 0
 · by_cases hroom:vs.length+1≤cap
   · have hcell:∀j,j<cap→(W.cell? ⟨g,j,none⟩).isSome=true:=fun j hj=>by
      simp[World.cell?, hg,hz,hj]
     have hfz:∀j,W.frozen? ⟨g,j,none⟩=false:=fun j=>by simp[World.frozen?, hg]
     refine wpList_append_room1 W hgd s x 57 57 ho 30 _ 24 Tryz.underlying57 Tryz.infoList g 0 vs.length cap (hs.trans hv) _ hx 1 [.slice q L.length c] hsrc hroom (fun j hj=>by simp at hj;subst hj;exact hcell _ (by omega)) (fun j _=>hfz _) ?_
     have hsc:W.setCells g (0+vs.length) [.slice q L.length c]=W.setCell ⟨g,vs.length,none⟩ (.slice q L.length c):=by
      rw[Nat.zero_add];rfl
     rw[hsc]
     have hgl:g<W.heap.size:=(Array.getElem?_eq_some_iff.1 hg).1
     refine h _ _ (.inr ⟨g,cap,cur.setIfInBounds vs.length (.slice q L.length c),by simp,hb,heap_setCell_same W g _ _ _ _ hg,by simpa using hroom,hm,by simpa using hz,?_,fun i M hM=>?_⟩) ?_ (fun b f hf hb2=>?_)
     · intro u hu
       rw[Array.toList_setIfInBounds]at hu
       rcases List.mem_or_eq_of_mem_set hu with hu | rfl
       · exact hsl u hu
       · exact⟨_,_,_,rfl⟩
     · rcases hat i M hM with⟨hi,hM⟩ | ⟨rfl,rfl⟩
       · obtain⟨q',c',h1,h2,h3,h4,h5⟩:=he i M hM
         refine⟨q',c',?_,h2.setc (h2.off hg hsl h5) _,h3,h4,h5⟩
         rw[Array.getElem?_setIfInBounds_ne (by omega)]
         exact h1
       · refine⟨q,c,?_,hNA.setc (hNA.off hg hsl hne) _,hlc,hcm,hne⟩
         rw[Array.getElem?_setIfInBounds_self]
         simp[hz]
         omega
     · exact(hbA.mono hbase).trans ((Below.refl base W).setCell hb _)
     · obtain⟨cur2,fr,hb2⟩:=hb2
       have hlt:=(Array.getElem?_eq_some_iff.1 hb2).1
       have hW:=hbA.block b hlt
       refine(Below.heap_setCell W ⟨g,vs.length,none⟩ _ b ?_).trans hW
       rintro rfl
       rw[hg]at hW
       rw[hb2]at hW
       injection hW with hW
       injection hW with _ h2 _
       exact hf h2.symm
   · refine grow (some ⟨g,0,none⟩) cap (cur.toList.take vs.length) hv (by omega) (by simp[hz];omega) (fun u hu=>hsl u (List.mem_of_mem_take hu)) (fun i M hM=>?_) ?_
     · obtain⟨q',c',h1,h2⟩:=he i M hM
       refine⟨q',c',?_,h2⟩
       have hi:i<vs.length:=(List.getElem?_eq_some_iff.1 hM).1
       rw[List.getElem?_take_of_lt hi]
       simpa using h1
     · rw[hz1]
       refine run_firstCells_some W.drew 1 vs.length ⟨g,0,none⟩ vs.length cap (cur.toList.take vs.length) (by simp[hz];omega) (fun j u hj=>?_)
       rw[Addr.add_lit,Nat.zero_add]
       rw[List.getElem?_take]at hj
       split at hj
       · have hd:W.drew.cell? ⟨g,j,none⟩=W.cell? ⟨g,j,none⟩:=rfl
         rw[hd]
         simp[World.cell?, hg]
         simpa using hj
       · cases hj
def StV (v:Value):Prop:=∃s,v= .string s
theorem Tryz.infoStr:(Tryz.prog.info? 9).map (fun i=>(i.zero,i.size,i.bytes))=some (some (.string ⟨#[]⟩),1,16):=by kernel_rfl
def OS (w:World)(base:Nat)(v:Value)(ts:List ByteArray):Prop:=
 (v= .slice none 0 0∧ts=[])∨∃(g cap:Nat) (cur:Array Value),v= .slice (some ⟨g,0,none⟩) ts.length cap∧base≤g∧w.heap[g]? =some (.cells cur 9 (0,0))∧ts.length≤cap∧cap≤maxLen∧cur.size=cap∧(∀c∈cur.toList,StV c)∧
  ∀(i:Nat) (s:ByteArray),ts[i]? =some s→cur[i]? =some (.string s)
theorem OS.nil (w:World)(base:Nat):OS w base (.slice none 0 0) []:=.inl ⟨rfl,rfl⟩
theorem OS.slice {w:World}{base:Nat}{v:Value}{ts:List ByteArray}(h:OS w base v ts):∃q c,v= .slice q ts.length c∧TL w q ts∧ts.length≤c∧c≤maxLen:=by
 rcases h with⟨rfl,rfl⟩ | ⟨g,cap,cur,rfl,hb,hg,hl,hm,hz,hs,he⟩
 · exact⟨none,0,rfl,.inl rfl,Nat.le_refl _,Nat.zero_le _⟩
 · refine⟨some ⟨g,0,none⟩,cap,rfl,.inr ⟨g,0,rfl,(Array.getElem?_eq_some_iff.1 hg).1,fun i s hs=>?_⟩,hl,hm⟩
   simp[World.cell?, hg,he i s hs]
theorem OS.keep {w w':World}{base:Nat}{v:Value}{ts:List ByteArray}(h:OS w base v ts)(hk:∀(g:Nat) (cur:Array Value),w.heap[g]? =some (.cells cur 9 (0,0))→w'.heap[g]? =w.heap[g]?):OS w' base v ts:=by
 rcases h with h | ⟨g,cap,cur,rfl,hb,hg,rest⟩
 · exact .inl h
 · exact .inr ⟨g,cap,cur,rfl,hb,(hk g cur hg).trans hg,rest⟩
theorem OS.up {w w':World}{base:Nat}{v:Value}{ts:List ByteArray}(h:OS w base v ts)(k:Below w.heap.size w w'):OS w' base v ts:=h.keep fun g cur hg=>k.block g (Array.getElem?_eq_some_iff.1 hg).1
theorem OS.bx {E:EvEnv}{w w':World}{B k base:Nat}{v:Value}{ts:List ByteArray}(h:OS w base v ts)(hs:AS E w B k)(hx:BX B w w'):OS w' base v ts:=by
 refine h.keep fun g cur hg=>hx.block g (Array.getElem?_eq_some_iff.1 hg).1 ?_
 rintro rfl
 have:=hs.blk
 rw[hg]at this
 injection this with this
 injection this with _ h2 _
 exact absurd h2 (by decide)
theorem NL.offS {w:World}{g:Nat}{cur:Array Value}{T:TypeId}{fr:Nat×Nat}(hg:w.heap[g]? =some (.cells cur T fr))(hs:∀c∈cur.toList,StV c){q:Option Addr}{L:List Nd}(h:NL w q L)(hne:L≠[]):∀d,q=some d→d.block≠g:=by
 rintro d rfl e
 rcases h with h | ⟨b,off,h1,h2,h3⟩
 · exact hne h
 · cases h1
   obtain⟨x,r,rfl⟩:=List.exists_cons_of_ne_nil hne
   obtain⟨d0,_⟩:=h3 0 x rfl
   have eb:b=g:=e
   subst eb
   simp only[World.cell?, hg]at d0
   have hm:Value.int .i64 x.op∈cur.toList:=by
    have:cur[off+0*4]? =some (.int .i64 x.op):=by simpa using d0
    exact Array.mem_toList_iff.2 (Array.mem_of_getElem? this)
   obtain⟨_,e⟩:=hs _ hm
   cases e
structure KS (base:Nat)(w w':World):Prop where
 bel:Below base w w'
 nl:∀(q:Option Addr) (L:List Nd),NL w q L→L≠[]→NL w' q L
 typed:∀(b:Nat) (f:TypeId) (cur:Array Value) (fr:Nat×Nat),f≠9→w.heap[b]? =some (Obj.cells cur f fr)→w'.heap[b]? =w.heap[b]?
theorem OV.ks {w w':World}{base b2:Nat}{v:Value}{vs:List (List Nd)}(h:OV w base v vs)(k:KS b2 w w'):OV w' base v vs:=by
 rcases h with h | ⟨g,cap,cur,rfl,hb,hg,hl,hm,hz,hs,he⟩
 · exact .inl h
 · refine .inr ⟨g,cap,cur,rfl,hb,(k.typed g _ cur _ (by decide) hg).trans hg,hl,hm,hz,hs,fun i L hL=>?_⟩
   obtain⟨q,c,h1,h2,h3,h4,h5⟩:=he i L hL
   exact⟨q,c,h1,k.nl q L h2 h5,h3,h4,h5⟩
theorem zero_st (k:Nat):∀c∈(Builtin.zeroCells (Value.string ⟨#[]⟩).cells k).toList,StV c:=by
 intro c hc
 have hz:(Value.string ⟨#[]⟩).cells= #[.string ⟨#[]⟩]:=rfl
 rw[hz]at hc
 unfold Builtin.zeroCells at hc
 simp only[Array.toList_map,List.mem_map]at hc
 obtain⟨i,_,rfl⟩:=hc
 exact⟨⟨#[]⟩,by simp[Nat.mod_one]⟩
theorem append_str (w:World)(base:Nat)(v:Value)(ts:List ByteArray)(hown:OS w base v ts)(t:ByteArray)(hlen:ts.length+1≤1000000)(hbase:base≤w.heap.size):
 ∃v' w',(∀ty,(Builtin.append_ #[38,38] ty #[v,.slice (some ⟨w.heap.size,0,none⟩) 1 1]).run Tryz.prog (w.alloc (.cells #[.string t] 9))= .ok v' w')∧OS w' base v' (ts++[t])∧KS base w w':=by
 obtain⟨i0,hi0,hz0,hz1,hz2⟩:=info_parts Tryz.infoStr
 have hbA:Below w.heap.size w (w.alloc (.cells #[.string t] 9)):=(Below.refl _ _).alloc (Nat.le_refl _) _
 have hAs:(w.alloc (.cells #[.string t] 9)).heap.size=w.heap.size+1:=by simp
 have hx0:∀j u,([.string t]:List Value)[j]? =some u→(w.alloc (.cells #[.string t] 9)).cell? ((⟨w.heap.size,0,none⟩:Addr).add j)=some u:=by
  intro j u hj
  match j,hj with
  | 0,hj=>simp at hj;subst hj;simp[Addr.add]
 have hoA:=hown.up hbA
 generalize w.alloc (.cells #[.string t] 9)=W at *
 have hsrc:Src Tryz.prog 1 38 (.slice (some ⟨w.heap.size,0,none⟩) 1 1) 1 [.string t] W:=Src.ofSlice W Tryz.underlying38 ⟨w.heap.size,0,none⟩ 1 1 [.string t] rfl hx0 (by intro u hu;simp at hu;subst hu;rfl)
 have hat:∀(i:Nat) M,(ts++[t])[i]? =some M→(i<ts.length∧ts[i]? =some M)∨(i=ts.length∧M=t):=by
  intro i M hM
  by_cases hi:i<ts.length
  · rw[List.getElem?_append_left hi]at hM;exact .inl ⟨hi,hM⟩
  · rw[List.getElem?_append_right (by omega)]at hM
    have h0:i-ts.length=0:=by
     have:=(List.getElem?_eq_some_iff.1 hM).1;simp at this;omega
    rw[h0]at hM
    simp at hM
    exact .inr ⟨by omega,hM.symm⟩
 have grow:∀(bs:Option Addr) (cap:Nat) (olds:List Value),v= .slice bs ts.length cap→cap<ts.length+1→olds.length=ts.length→(∀c∈olds,StV c)→(∀(i:Nat) (M:ByteArray),ts[i]? =some M→olds[i]? =some (Value.string M))→
  (Builtin.firstCells i0.size ts.length (.slice bs ts.length cap)).run Tryz.prog W.drew= .ok olds.toArray W.drew→∃v' w',(∀ty,(Builtin.append_ #[38,38] ty #[v,.slice (some ⟨w.heap.size,0,none⟩) 1 1]).run Tryz.prog W= .ok v' w')∧OS w' base v' (ts++[t])∧KS base w w':=by
  intro bs cap olds hv hcap holn hols hat2 hold
  have hsrc2:Src Tryz.prog i0.size 38 (.slice (some ⟨w.heap.size,0,none⟩) 1 1) 1 [.string t] W:=by rw[hz1];exact hsrc
  have hr:=fun ty=>run_append_grow_src (P:=Tryz.prog) W 38 38 ty 9 i0 _ Tryz.underlying38 hi0 hz0 bs ts.length cap olds hold _ 1 _ hsrc2 hcap (by omega) (by rw[hz2];exact growslice_fits hcap (by omega))
  rw[←hv]at hr
  have hG1:=grownCap_ge W (ts.length+1) cap 9
  have hG2:=grownCap_le_maxLen W (ts.length+1) cap 9 (by unfold maxLen;omega)
  generalize grownCap W (ts.length+1) cap 9=G at *
  generalize hRow:(olds++[Value.string t]).toArray++Builtin.zeroCells (Value.string ⟨#[]⟩).cells (G-(ts.length+1))=row
  have hb2:Below W.heap.size W (W.drew.alloc (.cells row 9)):=((Below.refl _ _).drew).alloc (Nat.le_refl _) _
  have hrs:row.size=G:=by
   rw[←hRow]
   have hz:(Value.string ⟨#[]⟩).cells= #[.string ⟨#[]⟩]:=rfl
   simp[Builtin.zeroCells,hz,holn]
   omega
  have hri:∀i,i<ts.length+1→row[i]? =(olds++[Value.string t])[i]? :=by
   intro i hi
   rw[←hRow,Array.getElem?_append_left (by simp[holn];omega)]
   simp
  rw[hRow]at hr
  refine⟨_,_,hr,.inr ⟨W.heap.size,G,row,by simp,by rw[hAs];omega,heap_alloc_new W.drew _,by simpa using hG1,hG2,hrs,?_,fun i M hM=>?_⟩,(hbA.trans (hb2.mono hbA.size)).mono hbase,fun q L hn _=>(hn.up hbA).up hb2,fun b f cur fr _ hb=>?_⟩
  · intro u hu
    rw[←hRow]at hu
    simp only[Array.toList_append,List.mem_append]at hu
    rcases hu with(hu | hu) | hu
    · exact hols u hu
    · simp at hu;subst hu;exact⟨_,rfl⟩
    · exact zero_st _ u hu
  · rcases hat i M hM with⟨hi,hM⟩ | ⟨rfl,rfl⟩
    · rw[hri i (by omega),List.getElem?_append_left (by omega)];exact hat2 i M hM
    · rw[hri _ (by omega),List.getElem?_append_right (by omega),holn];simp
  · have hlt:=(Array.getElem?_eq_some_iff.1 hb).1
    exact(hb2.block b (by omega)).trans (hbA.block b hlt)
 rcases hoA with⟨hv,hvs⟩ | ⟨g,cap,cur,hv,hb,hg,hl,hm,hz,hsl,he⟩
 · subst hvs
   refine grow none 0 [] hv (by simp) rfl (by simp) (by simp) ?_
   exact run_firstCells_none W.drew i0.size 0 0 0
 · by_cases hroom:ts.length+1≤cap
   · have hcell:∀j,j<cap→(W.cell? ⟨g,j,none⟩).isSome=true:=fun j hj=>by
      simp[World.cell?, hg,hz,hj]
     have hfz:∀j,W.frozen? ⟨g,j,none⟩=false:=fun j=>by simp[World.frozen?, hg]
     have hsrc2:Src Tryz.prog i0.size 38 (.slice (some ⟨w.heap.size,0,none⟩) 1 1) 1 [.string t] W:=by rw[hz1];exact hsrc
     have hr:=fun ty=>run_append_room_src (P:=Tryz.prog) W 38 38 ty 9 i0 Tryz.underlying38 hi0 g 0 ts.length cap _ 1 _ hsrc2 hroom (fun j hj=>by simp at hj;subst hj;rw[hz1];exact hcell _ (by omega)) (fun j _=>hfz _)
     have hsc:W.setCells g (0+ts.length*i0.size) [.string t]=W.setCell ⟨g,ts.length,none⟩ (.string t):=by
      rw[Nat.zero_add,hz1,Nat.mul_one];rfl
     rw[hsc,←hv]at hr
     refine⟨_,_,hr,.inr ⟨g,cap,cur.setIfInBounds ts.length (.string t),by simp,hb,heap_setCell_same W g _ _ _ _ hg,by simpa using hroom,hm,by simpa using hz,?_,fun i M hM=>?_⟩,?_,fun q L hn hne=>?_,fun b f cur2 fr hf hb2=>?_⟩
     · intro u hu
       rw[Array.toList_setIfInBounds]at hu
       rcases List.mem_or_eq_of_mem_set hu with hu | rfl
       · exact hsl u hu
       · exact⟨_,rfl⟩
     · rcases hat i M hM with⟨hi,hM⟩ | ⟨rfl,rfl⟩
       · rw[Array.getElem?_setIfInBounds_ne (by omega)]
         exact he i M hM
       · rw[Array.getElem?_setIfInBounds_self]
         simp[hz]
         omega
     · exact(hbA.mono hbase).trans ((Below.refl base W).setCell hb _)
     · have hnW:=hn.up hbA
       exact hnW.setc (hnW.offS hg hsl hne) _
     · have hlt:=(Array.getElem?_eq_some_iff.1 hb2).1
       have hW:=hbA.block b hlt
       refine(Below.heap_setCell W ⟨g,ts.length,none⟩ _ b ?_).trans hW
       rintro rfl
       rw[hg]at hW
       rw[hb2]at hW
       injection hW with hW
       injection hW with _ h2 _
       exact hf h2.symm
   · refine grow (some ⟨g,0,none⟩) cap (cur.toList.take ts.length) hv (by omega) (by simp[hz];omega) (fun u hu=>hsl u (List.mem_of_mem_take hu)) (fun i M hM=>?_) ?_
     · have hi:i<ts.length:=(List.getElem?_eq_some_iff.1 hM).1
       rw[List.getElem?_take_of_lt hi]
       simpa using he i M hM
     · rw[hz1]
       refine run_firstCells_some W.drew 1 ts.length ⟨g,0,none⟩ ts.length cap (cur.toList.take ts.length) (by simp[hz];omega) (fun j u hj=>?_)
       rw[Addr.add_lit,Nat.zero_add]
       rw[List.getElem?_take]at hj
       split at hj
       · have hd:W.drew.cell? ⟨g,j,none⟩=W.cell? ⟨g,j,none⟩:=rfl
         rw[hd]
         simp[World.cell?, hg]
         simpa using hj
       · cases hj
theorem step_append_runJ {ops:Array Oper}{o:Oper}{a:Act}{w:World}{K:Act→World→Prop}{Q:Exit→Act→World→Prop}{E:Prop}
 (hg:o.guard=none) (d x:Operand) (dT sT:TypeId) (hop:o.op=Op.call { callee:=Callee.builtin Builtin.append,args:= #[d,x],argTypes:= #[dT,sT] })
 (v u:Value) (hd:a.eval d=v) (hx:a.eval x=u) {v':Value} {w':World} (hr:(Builtin.append_ #[dT,sT] o.type #[v,u]).run Tryz.prog w= .ok v' w') (hK:K (a.put o.dst v') w'):
 if Region.wanted o (yielded ops a.tmps)=true then Oper.wp Tryz.prog o a w K Q else E:=by
 have hw:Region.wanted o (yielded ops a.tmps)=true:=by simp[Region.wanted,hg]
 rw[if_pos hw]
 unfold Oper.wp
 simp[execOp,hop,resolve,invoke,builtin,hd,hx,hr,Result.andThen]
 exact hK
end Go.Proofs.YtlnhaajjoplafaaGreatDoor
