import Derived.Test.YtlnhaajjoplafaaGreatDoorT11
import Derived.Maps.AppendAt
import Derived.Laws.AppendOwnNone
import Derived.Test.YtlnhaajjoplafaaGreatDoorT3
import Derived.Test.YtlnhaajjoplafaaGreatDoorT9
import Derived.Test.YtlnhaajjoplafaaGreatDoorT8
import Derived.Test.YtlnhaajjoplafaaGreatDoorT10
import Derived.Test.YtlnhaajjoplafaaGreatDoorT2
import Derived.Test.YtlnhaajjoplafaaGreatDoorShelfGrow
set_option linter.unusedVariables false
set_option maxHeartbeats 12000000
namespace Go.Proofs.YtlnhaajjoplafaaGreatDoor
open Go.RowKit
structure Blk (w:World)(B:Nat)(cs:Array Value)(T:TypeId):Prop where
 blk:w.heap[B]? =some (.cells cs T)
theorem Blk.lt {w:World}{B:Nat}{cs:Array Value}{T:TypeId}(h:Blk w B cs T):B<w.heap.size:=(Array.getElem?_eq_some_iff.1 h.blk).1
theorem Blk.low {N:Nat}{w w':World}{B:Nat}{cs:Array Value}{T:TypeId}(h:Blk w B cs T)(k:Below N w w')(hB:B<N):Blk w' B cs T:=⟨(k.block B hB).trans h.blk⟩
theorem Blk.up {w w':World}{B:Nat}{cs:Array Value}{T:TypeId}(h:Blk w B cs T)(k:Below w.heap.size w w'):Blk w' B cs T:=h.low k h.lt
theorem Blk.grown {w w':World}{B:Nat}{cs:Array Value}{T:TypeId}{r:Option Nat}(h:Blk w B cs T)(k:w.grownBy w' r)(hr:r≠some B):Blk w' B cs T:=⟨(k.block B h.lt (fun e=>hr e.symm)).trans h.blk⟩
theorem Blk.keep {S:Nat→Prop}{w w':World}{B:Nat}{cs:Array Value}{T:TypeId}(h:Blk w B cs T)(k:Keep S w w')(hr:¬S B):Blk w' B cs T:=⟨(k.block B h.lt hr).trans h.blk⟩
theorem Blk.cell {w:World}{B:Nat}{cs:Array Value}{T:TypeId}(h:Blk w B cs T)(j:Nat):w.cell? ⟨B,j,none⟩=cs[j]? :=by simp[World.cell?, h.blk]
theorem Blk.free {w:World}{B:Nat}{cs:Array Value}{T:TypeId}(h:Blk w B cs T)(j:Nat):w.frozen? ⟨B,j,none⟩=false:=by simp[World.frozen?, h.blk]
theorem Blk.new (w:World){B:Nat}(cs:Array Value)(T:TypeId)(hB:B=w.heap.size):Blk (w.alloc (.cells cs T)) B cs T:=by subst hB;exact⟨(MapKept.heap_alloc w _).1⟩
theorem Blk.set {w w':World}{B j:Nat}{cs:Array Value}{T:TypeId}{z:Value}(h:Blk w B cs T)(hw:w'=w.setCell ⟨B,j,none⟩ z):Blk w' B (cs.setIfInBounds j z) T∧Keep (fun a=>a=B) w w':=by
 subst hw
 exact⟨⟨heap_setCell_same w B j _ _ z h.blk⟩,keep_set w B j z⟩
theorem grown_belowG {N:Nat}{w w':World}{r:Option Nat}(h:w.grownBy w' r)(hr:∀g,r=some g→N≤g)(hN:N≤w.heap.size):Below N w w':=⟨h.os,h.tape,h.output,h.size,fun a ha=>h.block a (by omega) (fun e=>by have:=hr a e.symm;omega)⟩
theorem wp_append_at {P:Program}(w:World){o:Oper}{a:Act}{K:Act→World→Prop}{Q:Exit→Act→World→Prop}(s x:Operand)(t:TypeId)
 (ho:o.op= .call { callee:=.builtin .append,args:= #[s,x],argTypes:= #[t,t] })
 (base:Nat) (e:TypeId) (i:TypeInfo) (z:Value) (size bytes:Nat) (ht:P.underlying t=some (.slice e)) (hi:P.info? e=some i) (hz:i.zero=some z)
 (hsize:i.size=size) (hby:i.bytes=bytes) (hzs:z.cells.size=size) (hsz:0<size)
 (v:Value) (n:Nat) (xs:List Value) (hs:a.eval s=v) (hown:w.ownsRow base e size v n xs)
 (ad:Addr) (m c:Nat) (news:List Value) (hx:a.eval x= .slice (some ad) m c) (hl:news.length=m*size) (hnews:∀j u,news[j]? =some u→w.cell? (ad.add j)=some u) (h1:∀u∈news,u.oneCell'=true)
 (h63:n+m≤maxLen) (hbytes:(n+m)*bytes≤140737488355328) (hbase:base≤w.heap.size)
 (h:∀v' w',w'.ownsRow base e size v' (n+m) (xs++news)→w.grownBy w' v.ownBlock→(v'.ownBlock=v.ownBlock∨v'.ownBlock=some w.heap.size)→K (a.put o.dst v') w'):o.wp P a w K Q:=by
 obtain⟨v',w',hr,h2,h3,h4,h5⟩:=run_append_own_at (P:=P) w base t o.type e i z size bytes ht hi hz hsize hby hzs hsz v n xs hown ad m c news hl hnews h1 h63 hbytes hbase
 unfold Oper.wp execOp
 simp only[ho,resolve,invoke,builtin,Sem.run_bind,Sem.run_pure,Result.andThen_ok,List.map_toArray,List.map_cons,List.map_nil,hs,hx,hr]
 exact h v' w' h2 h3 h5
theorem wp_append_none {P:Program}(w:World){o:Oper}{a:Act}{K:Act→World→Prop}{Q:Exit→Act→World→Prop}(s x:Operand)(t:TypeId)
 (ho:o.op= .call { callee:=.builtin .append,args:= #[s,x],argTypes:= #[t,t] })
 (base:Nat) (e:TypeId) (i:TypeInfo) (size:Nat) (ht:P.underlying t=some (.slice e)) (hi:P.info? e=some i)
 (v:Value) (n:Nat) (xs:List Value) (hs:a.eval s=v) (hown:w.ownsRow base e size v n xs) (hx:a.eval x= .slice none 0 0)
 (h:K (a.put o.dst v) w):o.wp P a w K Q:=by
 have hrun:=run_append_owned_none (P:=P) (w:=w) base t o.type e i size ht hi v n xs hown
 unfold Oper.wp
 simp[execOp,ho,resolve,invoke,builtin,hs,hx,hrun,Result.andThen]
 exact h
def scoC (s:Sco):List Value:=[.int .i64 s.op,.string s.ty,.string s.u.t,.string s.u.i]
def sdV (s:Sco)(v:ByteArray):Value:=.agg #[.int .i64 s.op,.string s.ty,.string s.u.t,.string s.u.i,.string v]
def cndV (c:Cnd)(pe:Option Addr)(ce:Nat):Value:=.agg #[.bool c.un,.slice pe c.ex.length ce]
def poV (p:Po)(pc:Option Addr)(cc:Nat):Value:=
 .agg #[.string p.nm,.bool p.fb,.int .i64 p.who.op,.string p.who.ty,.string p.who.u.t,.string p.who.u.i,.int .i64 p.act.op,.string p.act.ty,.string p.act.u.t,.string p.act.u.i,.int .i64 p.what.op,.string p.what.ty,.string p.what.u.t,.string p.what.u.i,.slice pc p.cs.length cc]
def CdL (w:World)(p:Option Addr)(cs:List Cnd):Prop:=
 cs=[]∨∃b off,p=some ⟨b,off,none⟩∧b<w.heap.size∧∀i c,cs[i]? =some c→∃pe ce,AK w c.ex pe ce∧
  w.cell? ⟨b,off+i*2,none⟩=some (.bool c.un)∧w.cell? ⟨b,off+i*2+1,none⟩=some (.slice pe c.ex.length ce)
theorem CdL.up {w w':World}{p:Option Addr}{cs:List Cnd}(h:CdL w p cs)(k:Below w.heap.size w w'):CdL w' p cs:=by
 rcases h with h | ⟨b,off,h1,h2,h3⟩
 · exact .inl h
 · refine .inr ⟨b,off,h1,Nat.lt_of_lt_of_le h2 k.size,fun i c hc=>?_⟩
   obtain⟨pe,ce,q0,q1⟩:=h3 i c hc
   have q:∀o,w'.cell? ⟨b,o,none⟩=w.cell? ⟨b,o,none⟩:=fun o=>k.cell (p:=⟨b,o,none⟩) h2
   refine⟨pe,ce,q0.up k,?_⟩
   simp only[q]
   exact q1
theorem CdL.at {w:World}{p:Option Addr}{cs:List Cnd}(h:CdL w p cs){i:Nat}(hi:i<cs.length):∃b off pe ce,p=some ⟨b,off,none⟩∧b<w.heap.size∧AK w cs[i].ex pe ce∧
 w.cell? ⟨b,off+i*2,none⟩=some (.bool cs[i].un)∧w.cell? ⟨b,off+i*2+1,none⟩=some (.slice pe cs[i].ex.length ce):=by
 rcases h with rfl | ⟨b,off,h1,h2,h3⟩
 · simp at hi
 · obtain⟨pe,ce,q0,q1,q2⟩:=h3 i _ (List.getElem?_eq_getElem hi)
   exact⟨b,off,pe,ce,h1,h2,q0,q1,q2⟩
structure ScoOk (s:Sco):Prop where
 ty:s.ty.size≤maxLen
 u:UOk s.u
structure PoA (w:World)(p:Po)(pc:Option Addr)(cc:Nat):Prop where
 nm:p.nm.size≤maxLen
 who:ScoOk p.who
 act:ScoOk p.act
 what:ScoOk p.what
 cl:CdL w pc p.cs
 le:p.cs.length≤cc
 cm:cc≤maxLen
theorem PoA.up {w w':World}{p:Po}{pc:Option Addr}{cc:Nat}(h:PoA w p pc cc)(k:Below w.heap.size w w'):PoA w' p pc cc:=⟨h.nm,h.who,h.act,h.what,h.cl.up k,h.le,h.cm⟩
def sidesC (p:Po):Array Value:=
 #[.int .i64 p.who.op,.string p.who.ty,.string p.who.u.t,.string p.who.u.i,.string sPrin,.int .i64 p.act.op,.string p.act.ty,.string p.act.u.t,.string p.act.u.i,.string sAct,.int .i64 p.what.op,.string p.what.ty,.string p.what.u.t,.string p.what.u.i,.string sRes]
set_option linter.unusedSimpArgs false
set_option maxRecDepth 100000
theorem pisName_any (s:ByteArray)(w:World)(hs:s.size≤maxLen):
 Calls Tryz.prog 39 #[.string s] w fun e w'=>e= .returned (.bool (okN s))∧Below w.heap.size w w':=by
 have HC:=fun w=>check_any s w hs
 by_cases h:nfault s.data.toList=0
 · have HR:Hid (okN s=true):=by show _=_;unfold okN;rw[h];rfl
   simp only[eV_nil h]at HC
   clear h
   go_enter Tryz.func39,Tryz.ntmps39
   go_wp2_with fail
   refine(HC _).mono ?_
   rintro _ w1 ⟨rfl,rfl⟩
   go_wp2
   go_ret
   exact⟨by rw[HR.out];rfl,kqx⟩
 · have HR:Hid (okN s=false):=by show _=_;unfold okN;rw[beq_eq_false_iff_ne];exact h
   simp only[eV_not h]at HC
   generalize nfault s.data.toList=n at *
   clear h
   go_enter Tryz.func39,Tryz.ntmps39
   go_wp2_with fail
   refine(HC _).mono ?_
   rintro _ w1 ⟨rfl,rfl⟩
   go_wp2
   go_ret
   exact⟨by rw[HR.out];rfl,kqx⟩
theorem pisUid_any (u:Ui)(w:World)(hu:UOk u):
 Calls Tryz.prog 38 #[.agg #[.string u.t,.string u.i]] w fun e w'=>e= .returned (.bool (okU u))∧Below w.heap.size w w':=by
 obtain⟨V,hV⟩:∃V,V=w.alloc (.cells #[.string u.t,.string u.i] 24):=⟨_,rfl⟩
 have hbV:Below w.heap.size w V:=by rw[hV];exact kqx
 have HC:=write_any u.t u.i V hu.1 hu.2
 by_cases h:uf u=0
 · have HR:Hid (okU u=true):=by show _=_;unfold okU;rw[h];rfl
   have h2:ufault u.t.data.toList u.i.data.toList=0:=h
   rw[eV_nil h2]at HC
   clear h h2 hu
   go_enter Tryz.func38,Tryz.ntmps38
   go_wp2_with fail
   rw[←hV]
   refine HC.mono ?_
   rintro _ w1 ⟨q,rfl,hb1⟩
   clear hV
   go_wp2
   go_ret
   exact⟨by rw[HR.out];rfl,kqt hbV hb1⟩
 · have HR:Hid (okU u=false):=by show _=_;unfold okU;rw[beq_eq_false_iff_ne];exact h
   have h2:ufault u.t.data.toList u.i.data.toList≠0:=h
   rw[eV_not h2]at HC
   generalize ufault u.t.data.toList u.i.data.toList=n at *
   clear h h2 hu
   go_enter Tryz.func38,Tryz.ntmps38
   go_wp2_with fail
   rw[←hV]
   refine HC.mono ?_
   rintro _ w1 ⟨q,rfl,hb1⟩
   clear hV
   go_wp2
   go_ret
   exact⟨by rw[HR.out];rfl,kqt hbV hb1⟩
theorem sidesOf_any (p:Po)(pc:Option Addr)(cc:Nat)(w:World):
 Calls Tryz.prog 17 #[poV p pc cc] w fun e w'=>(∃b,e= .returned (.slice (some ⟨b,0,none⟩) 3 3)∧Blk w' b (sidesC p) 64)∧Below w.heap.size w w':=by
 unfold poV
 go_enter Tryz.func17,Tryz.ntmps17
 go_wp2
 go_ret
 refine⟨⟨_,rfl,?_⟩,?_⟩
 · exact Blk.new _ _ _ (by simp)
 · exact kqx
def scV (s:Sco):Value:=.agg #[.int .i64 s.op,.string s.ty,.string s.u.t,.string s.u.i]
def uiV (u:Ui):Value:=.agg #[.string u.t,.string u.i]
theorem cells4 {w:World}{T:Nat}{x0 x1 x2 x3:Value}{ty:TypeId}(h:Blk w T #[x0,x1,x2,x3] ty)(v0 v1 v2 v3:Value):
 Blk (((((w).setCell ⟨T,0,none⟩ (v0)).setCell ⟨T,1,none⟩ (v1)).setCell ⟨T,2,none⟩ (v2)).setCell ⟨T,3,none⟩ (v3)) T #[v0,v1,v2,v3] ty∧Keep (fun x=>x=T) w (((((w).setCell ⟨T,0,none⟩ (v0)).setCell ⟨T,1,none⟩ (v1)).setCell ⟨T,2,none⟩ (v2)).setCell ⟨T,3,none⟩ (v3)):=by
 have h0:=h.set (j:=0) (z:=v0) rfl
 have h1:=h0.1.set (j:=1) (z:=v1) rfl
 have h2:=h1.1.set (j:=2) (z:=v2) rfl
 have h3:=h2.1.set (j:=3) (z:=v3) rfl
 exact⟨h3.1,((h0.2.trans h1.2 (fun _ e=>.inl e)).trans h2.2 (fun _ e=>.inl e)).trans h3.2 (fun _ e=>.inl e)⟩
theorem hasSlot_any (s:Sco)(w:World):Calls Tryz.prog 26 #[scV s] w fun e w'=>e= .returned (.bool (hsl s))∧Below w.heap.size w w':=by
 obtain⟨op,ty,u⟩:=s
 unfold hsl scV
 simp only
 by_cases h5:op=5
 · subst h5
   go_enter Tryz.func26,Tryz.ntmps26
   go_wp2
   go_ret
   exact⟨rfl,kqx⟩
 · have b5:(op == 5)=false:=by simpa using h5
   by_cases h6:op=6
   · subst h6
     go_enter Tryz.func26,Tryz.ntmps26
     go_wp2
     go_ret
     exact⟨rfl,kqx⟩
   · have b6:(op == 6)=false:=by simpa using h6
     rw[decide_eq_false h5,decide_eq_false h6]
     clear h5 h6
     go_enter Tryz.func26,Tryz.ntmps26
     go_wp2
     go_ret
     exact⟨rfl,kqx⟩
structure AK0 (w:World)(a:List Nd)(p:Option Addr)(c:Nat):Prop where
 nl:NL w p a
 le:a.length≤c
 cm:c≤maxLen
theorem AK0.up {w w':World}{a:List Nd}{p:Option Addr}{c:Nat}(h:AK0 w a p c)(hb:Below w.heap.size w w'):AK0 w' a p c:=⟨h.nl.up hb,h.le,h.cm⟩
def KRet (w':World)(l:List Nd)(e:Ending):Prop:=∃q c',e= .returned (.slice q l.length c')∧AK0 w' l q c'
theorem one_newN {w W':World}{B:Nat}(x:Nd)(hx:x.wf)(hB:B=w.heap.size)(hb:Below (w.alloc (.cells #[.int .i64 x.op,.int .i64 x.n,.string x.s,.string x.t] 47)).heap.size (w.alloc (.cells #[.int .i64 x.op,.int .i64 x.n,.string x.s,.string x.t] 47)) W'):KRet W' [x] (.returned (.slice (some ⟨B,0,none⟩) 1 1)):=by
 have hk:=(Blk.new w (B:=B) #[.int .i64 x.op,.int .i64 x.n,.string x.s,.string x.t] 47 hB).up hb
 refine⟨_,_,rfl,⟨.inr ⟨B,0,rfl,hk.lt,fun i z hz=>?_⟩,Nat.le_refl _,by unfold maxLen;omega⟩⟩
 cases i with
 | succ i=>simp at hz
 | zero=>
   simp only[List.getElem?_cons_zero,Option.some.injEq]at hz
   subst hz
   exact⟨hk.cell 0,hk.cell 1,hk.cell 2,hk.cell 3,hx⟩
theorem lf_wf (o:Int)(h:o≤100):(lfN o).wf:=by
 simp[lfN,e0,Nd.wf,maxLen]
 exact Nat.zero_le _
theorem append_nodesG (w:World){ops:Array Oper}{rest:List Oper}{o:Oper}{a:Act}{Q:Exit→Act→World→Prop}(hgd:o.guard=none)(s x:Operand)
 (ho:o.op= .call { callee:=.builtin .append,args:= #[s,x],argTypes:= #[30,30] })
 (base:Nat) (v:Value) (L:List Nd) (hs:a.eval s=v) (hown:ON w base v L) (M:List Nd) (n:Nat) (hn:M.length=n) (b off c:Nat) (hN:NL w (some ⟨b,off,none⟩) M)
 (hx:a.eval x= .slice (some ⟨b,off,none⟩) n c) (hlen:L.length+M.length≤1099511627776) (hbase:base≤w.heap.size)
 (h:∀v' w',ON w' base v' (L++M)→w.grownBy w' v.ownBlock→(v'.ownBlock=v.ownBlock∨v'.ownBlock=some w.heap.size)→wpList Tryz.prog ops Q rest (a.put o.dst v') w'):wpList Tryz.prog ops Q (o::rest) a w:=by
 subst hn
 obtain⟨i0,hi,hz0,hz1,hz2⟩:=info_parts Tryz.infoNode
 refine wpList_append_own_at _ hgd s x 30 ho base 47 i0 _ 4 48 Tryz.underlying30 hi hz0 hz1 hz2 rfl (by decide) v L.length (ncells L) hs hown.1 ⟨b,off,none⟩ M.length c (ncells M) hx (ncells_length M) ?_ (ncells_one _) (by unfold maxLen;omega) (by omega) hbase ?_
 · intro j u hu
   have hadd:(⟨b,off,none⟩:Addr).add j=⟨b,off+j,none⟩:=by unfold Addr.add;split<;>simp_all
   rw[hadd];exact hN.cells j u hu
 · intro v' w' h1 h2 _ h4
   refine h v' w' ⟨?_,fun x hx=>?_⟩ h2 h4
   · rw[ncells_append,List.length_append];exact h1
   · rcases List.mem_append.1 hx with hx | hx
     · exact hown.2 x hx
     · exact hN.wfs x hx
theorem NL.keep {S:Nat→Prop}{w w':World}{b off:Nat}{L:List Nd}(h:NL w (some ⟨b,off,none⟩) L)(k:Keep S w w')(hS:¬S b):NL w' (some ⟨b,off,none⟩) L:=by
 rcases h with h | ⟨b',off',h1,h2,h3⟩
 · exact .inl h
 · cases h1
   refine .inr ⟨b,off,rfl,Nat.lt_of_lt_of_le h2 k.size,fun i x hx=>?_⟩
   have q:∀o,w'.cell? ⟨b,o,none⟩=w.cell? ⟨b,o,none⟩:=fun o=>k.cell (p:=⟨b,o,none⟩) h2 hS
   obtain⟨a1,a2,a3,a4,a5⟩:=h3 i x hx
   exact⟨(q _).trans a1,(q _).trans a2,(q _).trans a3,(q _).trans a4,a5⟩
theorem keep_grown {w w':World}{r:Option Nat}(h:w.grownBy w' r):Keep (fun a=>r=some a) w w':=⟨h.os,h.tape,h.output,h.size,fun a ha hn=>h.block a ha (fun e=>hn e.symm)⟩
theorem ON.emptyK (w:World)(base:Nat):ON w base (.slice none 0 0) []:=⟨World.ownsRow_nil _ _ _ _,fun x hx=>by cases hx⟩
theorem ON.cap {w:World}{base:Nat}{q:Option Addr}{n c:Nat}{L:List Nd}(h:ON w base (.slice q n c) L):L.length≤c∧c≤maxLen:=by
 rcases h.1.2 with⟨e,h0⟩ | ⟨g,cap,cur,e,_,_,h2,h3,_⟩
 · cases e;exact⟨by omega,Nat.zero_le _⟩
 · cases e;exact⟨h2,h3⟩
theorem ON.nl {w:World}{base:Nat}{q:Option Addr}{c:Nat}{L:List Nd}(h:ON w base (.slice q L.length c) L):NL w q L:=by
 obtain⟨q',c',e,h1,_⟩:=NL.of_row h.2 h.1
 cases e
 exact h1.1
def KRetF (w w':World)(L:List Nd)(e:Ending):Prop:=∃q c',e= .returned (.slice q L.length c')∧AK0 w' L q c'∧∀b o,q=some ⟨b,o,none⟩→w.heap.size≤b
theorem KRetF.ret {w w':World}{L:List Nd}{e:Ending}(h:KRetF w w' L e):KRet w' L e:=by
 obtain⟨q,c,h1,h2,_⟩:=h
 exact⟨q,c,h1,h2⟩
def catL:List (List Nd)→List Nd
 | []=>[]
 | l::r=>l++catL r
theorem catL_app:∀a b:List (List Nd),catL (a++b)=catL a++catL b
 | [],b=>rfl
 | l::r,b=>by simp[catL,catL_app r b]
theorem LL.here {w:World}{p:Option Addr}{a r:List (List Nd)}{l:List Nd}(h:LL w p (a++l::r)):∃b off q c,p=some ⟨b,off,none⟩∧b<w.heap.size∧w.cell? ⟨b,off+a.length,none⟩=some (.slice q l.length c)∧NL w q l∧l.length≤c∧c≤maxLen:=by
 rcases h with h | ⟨b,off,h1,h2,h3⟩
 · simp at h
 · obtain⟨q,c,h4⟩:=h3 a.length l (by simp)
   exact⟨b,off,q,c,h1,h2,h4⟩
theorem nO_wf {o:Int}:(nO o).wf:=⟨Nat.zero_le _,Nat.zero_le _,by show(0:Int)≤_;decide⟩
theorem nSy_wf {o:Int}{s:ByteArray}(h:s.size≤maxLen):(nSy o s).wf:=⟨h,Nat.zero_le _,by show(0:Int)≤_;decide⟩
theorem nEn_wf {u:Ui}(h:UOk u):(nEn u).wf:=⟨h.1,h.2,by show(0:Int)≤_;decide⟩
theorem nTr_wf:nTr.wf:=⟨Nat.zero_le _,Nat.zero_le _,by show(1:Int)≤_;decide⟩
theorem all_wf0:∀x∈([]:List Nd),x.wf:=fun x h=>by cases h
theorem all_wf {x:Nd}{l:List Nd}(h:x.wf)(hl:∀y∈l,y.wf):∀y∈x::l,y.wf:=fun y hy=>by
 rcases List.mem_cons.1 hy with rfl | hy
 · exact h
 · exact hl y hy
theorem lit_ret {w W:World}{B:Nat}(cs:Array Value)(L:List Nd)(hw:∀x∈L,x.wf)(hc:cs.toList=ncells L)(hl:L.length≤1000)(hB:B=W.heap.size)(h0:w.heap.size≤B){n:Nat}(hn:L.length=n):KRetF w (W.alloc (.cells cs 47)) L (.returned (.slice (some ⟨B,0,none⟩) n n)):=by
 subst hB hn
 refine⟨_,_,rfl,⟨NL.lit W L cs hw hc hl,Nat.le_refl _,by unfold maxLen;omega⟩,fun b o e=>?_⟩
 cases e
 exact h0
section
variable (op:Int) (ty ut ui v:ByteArray) (w:World) (ht:ty.size≤maxLen) (hu:UOk ⟨ut,ui⟩) (hv:v.size≤100)
include ht hu hv
theorem sexpr_0 (h0:op≠1∧op≠2∧op≠3∧op≠4∧op≠5∧op≠6):
 Calls Tryz.prog 18 #[sdV ⟨op,ty,⟨ut,ui⟩⟩ v] w fun e w'=>KRetF w w' (scE v ⟨op,ty,⟨ut,ui⟩⟩) e∧Below w.heap.size w w':=by
 have hL:scE v ⟨op,ty,⟨ut,ui⟩⟩=[nTr]:=by simp[scE,h0]
 obtain⟨n1,n2,n3,n4,n5,n6⟩:=h0
 have b1:(op == 1)=false:=by rw[beq_eq_false_iff_ne];exact n1
 have b2:(op == 2)=false:=by rw[beq_eq_false_iff_ne];exact n2
 have b3:(op == 3)=false:=by rw[beq_eq_false_iff_ne];exact n3
 have b4:(op == 4)=false:=by rw[beq_eq_false_iff_ne];exact n4
 have b5:(op == 5)=false:=by rw[beq_eq_false_iff_ne];exact n5
 have b6:(op == 6)=false:=by rw[beq_eq_false_iff_ne];exact n6
 clear n1 n2 n3 n4 n5 n6
 rw[hL]
 clear hL
 have hw:Hid (∀x∈[nTr],x.wf):=by
  have hv2:(nSy 8 v).wf:=nSy_wf (by unfold maxLen;omega)
  have hq2:(nSy 8 (qv v)).wf:=nSy_wf (by unfold maxLen qv;rw[ByteArray.size_append];show 1+_≤_;omega)
  have ht2:(nSy 24 ty).wf:=nSy_wf ht
  have hu2:(nEn ⟨ut,ui⟩).wf:=nEn_wf hu
  exact all_wf nTr_wf all_wf0
 have hvs:¬ 9223372036854775807<1+v.size:=by omega
 clear ht hu hv
 unfold sdV
 simp only
 go_enter Tryz.func18,Tryz.ntmps18
 go_wp2
 go_ret
 exact⟨lit_ret _ _ hw.out rfl (by simp) (by simp) (by omega) rfl,kqx⟩
theorem sexpr_1 (h0:op=1):
 Calls Tryz.prog 18 #[sdV ⟨op,ty,⟨ut,ui⟩⟩ v] w fun e w'=>KRetF w w' (scE v ⟨op,ty,⟨ut,ui⟩⟩) e∧Below w.heap.size w w':=by
 subst h0
 have hL:scE v ⟨1,ty,⟨ut,ui⟩⟩=[nO 14,nSy 8 v,nEn ⟨ut,ui⟩]:=by simp[scE]
 rw[hL]
 clear hL
 have hw:Hid (∀x∈[nO 14,nSy 8 v,nEn ⟨ut,ui⟩],x.wf):=by
  have hv2:(nSy 8 v).wf:=nSy_wf (by unfold maxLen;omega)
  have hq2:(nSy 8 (qv v)).wf:=nSy_wf (by unfold maxLen qv;rw[ByteArray.size_append];show 1+_≤_;omega)
  have ht2:(nSy 24 ty).wf:=nSy_wf ht
  have hu2:(nEn ⟨ut,ui⟩).wf:=nEn_wf hu
  exact all_wf nO_wf (all_wf hv2 (all_wf hu2 all_wf0))
 have hvs:¬ 9223372036854775807<1+v.size:=by omega
 clear ht hu hv
 unfold sdV
 simp only
 go_enter Tryz.func18,Tryz.ntmps18
 go_wp2
 go_ret
 exact⟨lit_ret _ _ hw.out rfl (by simp) (by simp) (by omega) rfl,kqx⟩
theorem sexpr_2 (h0:op=2):
 Calls Tryz.prog 18 #[sdV ⟨op,ty,⟨ut,ui⟩⟩ v] w fun e w'=>KRetF w w' (scE v ⟨op,ty,⟨ut,ui⟩⟩) e∧Below w.heap.size w w':=by
 subst h0
 have hL:scE v ⟨2,ty,⟨ut,ui⟩⟩=[nO 20,nSy 8 v,nEn ⟨ut,ui⟩]:=by simp[scE]
 rw[hL]
 clear hL
 have hw:Hid (∀x∈[nO 20,nSy 8 v,nEn ⟨ut,ui⟩],x.wf):=by
  have hv2:(nSy 8 v).wf:=nSy_wf (by unfold maxLen;omega)
  have hq2:(nSy 8 (qv v)).wf:=nSy_wf (by unfold maxLen qv;rw[ByteArray.size_append];show 1+_≤_;omega)
  have ht2:(nSy 24 ty).wf:=nSy_wf ht
  have hu2:(nEn ⟨ut,ui⟩).wf:=nEn_wf hu
  exact all_wf nO_wf (all_wf hv2 (all_wf hu2 all_wf0))
 have hvs:¬ 9223372036854775807<1+v.size:=by omega
 clear ht hu hv
 unfold sdV
 simp only
 go_enter Tryz.func18,Tryz.ntmps18
 go_wp2
 go_ret
 exact⟨lit_ret _ _ hw.out rfl (by simp) (by simp) (by omega) rfl,kqx⟩
theorem sexpr_3 (h0:op=3):
 Calls Tryz.prog 18 #[sdV ⟨op,ty,⟨ut,ui⟩⟩ v] w fun e w'=>KRetF w w' (scE v ⟨op,ty,⟨ut,ui⟩⟩) e∧Below w.heap.size w w':=by
 subst h0
 have hL:scE v ⟨3,ty,⟨ut,ui⟩⟩=[nSy 24 ty,nSy 8 v]:=by simp[scE]
 rw[hL]
 clear hL
 have hw:Hid (∀x∈[nSy 24 ty,nSy 8 v],x.wf):=by
  have hv2:(nSy 8 v).wf:=nSy_wf (by unfold maxLen;omega)
  have hq2:(nSy 8 (qv v)).wf:=nSy_wf (by unfold maxLen qv;rw[ByteArray.size_append];show 1+_≤_;omega)
  have ht2:(nSy 24 ty).wf:=nSy_wf ht
  have hu2:(nEn ⟨ut,ui⟩).wf:=nEn_wf hu
  exact all_wf ht2 (all_wf hv2 all_wf0)
 have hvs:¬ 9223372036854775807<1+v.size:=by omega
 clear ht hu hv
 unfold sdV
 simp only
 go_enter Tryz.func18,Tryz.ntmps18
 go_wp2
 go_ret
 exact⟨lit_ret _ _ hw.out rfl (by simp) (by simp) (by omega) rfl,kqx⟩
theorem sexpr_4 (h0:op=4):
 Calls Tryz.prog 18 #[sdV ⟨op,ty,⟨ut,ui⟩⟩ v] w fun e w'=>KRetF w w' (scE v ⟨op,ty,⟨ut,ui⟩⟩) e∧Below w.heap.size w w':=by
 subst h0
 have hL:scE v ⟨4,ty,⟨ut,ui⟩⟩=[nO 11,nSy 24 ty,nSy 8 v,nO 20,nSy 8 v,nEn ⟨ut,ui⟩]:=by simp[scE]
 rw[hL]
 clear hL
 have hw:Hid (∀x∈[nO 11,nSy 24 ty,nSy 8 v,nO 20,nSy 8 v,nEn ⟨ut,ui⟩],x.wf):=by
  have hv2:(nSy 8 v).wf:=nSy_wf (by unfold maxLen;omega)
  have hq2:(nSy 8 (qv v)).wf:=nSy_wf (by unfold maxLen qv;rw[ByteArray.size_append];show 1+_≤_;omega)
  have ht2:(nSy 24 ty).wf:=nSy_wf ht
  have hu2:(nEn ⟨ut,ui⟩).wf:=nEn_wf hu
  exact all_wf nO_wf (all_wf ht2 (all_wf hv2 (all_wf nO_wf (all_wf hv2 (all_wf hu2 all_wf0)))))
 have hvs:¬ 9223372036854775807<1+v.size:=by omega
 clear ht hu hv
 unfold sdV
 simp only
 go_enter Tryz.func18,Tryz.ntmps18
 go_wp2
 go_ret
 exact⟨lit_ret _ _ hw.out rfl (by simp) (by simp) (by omega) rfl,kqx⟩
theorem sexpr_5 (h0:op=5):
 Calls Tryz.prog 18 #[sdV ⟨op,ty,⟨ut,ui⟩⟩ v] w fun e w'=>KRetF w w' (scE v ⟨op,ty,⟨ut,ui⟩⟩) e∧Below w.heap.size w w':=by
 subst h0
 have hL:scE v ⟨5,ty,⟨ut,ui⟩⟩=[nO 14,nSy 8 v,nSy 8 (qv v)]:=by simp[scE]
 rw[hL]
 clear hL
 have hw:Hid (∀x∈[nO 14,nSy 8 v,nSy 8 (qv v)],x.wf):=by
  have hv2:(nSy 8 v).wf:=nSy_wf (by unfold maxLen;omega)
  have hq2:(nSy 8 (qv v)).wf:=nSy_wf (by unfold maxLen qv;rw[ByteArray.size_append];show 1+_≤_;omega)
  have ht2:(nSy 24 ty).wf:=nSy_wf ht
  have hu2:(nEn ⟨ut,ui⟩).wf:=nEn_wf hu
  exact all_wf nO_wf (all_wf hv2 (all_wf hq2 all_wf0))
 have hvs:¬ 9223372036854775807<1+v.size:=by omega
 clear ht hu hv
 unfold sdV
 simp only
 go_enter Tryz.func18,Tryz.ntmps18
 go_wp2
 go_ret
 exact⟨lit_ret _ _ hw.out rfl (by simp) (by simp) (by omega) rfl,kqx⟩
theorem sexpr_6 (h0:op=6):
 Calls Tryz.prog 18 #[sdV ⟨op,ty,⟨ut,ui⟩⟩ v] w fun e w'=>KRetF w w' (scE v ⟨op,ty,⟨ut,ui⟩⟩) e∧Below w.heap.size w w':=by
 subst h0
 have hL:scE v ⟨6,ty,⟨ut,ui⟩⟩=[nO 20,nSy 8 v,nSy 8 (qv v)]:=by simp[scE]
 rw[hL]
 clear hL
 have hw:Hid (∀x∈[nO 20,nSy 8 v,nSy 8 (qv v)],x.wf):=by
  have hv2:(nSy 8 v).wf:=nSy_wf (by unfold maxLen;omega)
  have hq2:(nSy 8 (qv v)).wf:=nSy_wf (by unfold maxLen qv;rw[ByteArray.size_append];show 1+_≤_;omega)
  have ht2:(nSy 24 ty).wf:=nSy_wf ht
  have hu2:(nEn ⟨ut,ui⟩).wf:=nEn_wf hu
  exact all_wf nO_wf (all_wf hv2 (all_wf hq2 all_wf0))
 have hvs:¬ 9223372036854775807<1+v.size:=by omega
 clear ht hu hv
 unfold sdV
 simp only
 go_enter Tryz.func18,Tryz.ntmps18
 go_wp2
 go_ret
 exact⟨lit_ret _ _ hw.out rfl (by simp) (by simp) (by omega) rfl,kqx⟩
end
theorem sideE_any (s:Sco)(v:ByteArray)(w:World)(hs:ScoOk s)(hv:v.size≤100):
 Calls Tryz.prog 18 #[sdV s v] w fun e w'=>KRetF w w' (scE v s) e∧Below w.heap.size w w':=by
 obtain⟨op,ty,⟨ut,ui⟩⟩:=s
 by_cases h1:op=1
 · exact sexpr_1 op ty ut ui v w hs.ty hs.u hv h1
 by_cases h2:op=2
 · exact sexpr_2 op ty ut ui v w hs.ty hs.u hv h2
 by_cases h3:op=3
 · exact sexpr_3 op ty ut ui v w hs.ty hs.u hv h3
 by_cases h4:op=4
 · exact sexpr_4 op ty ut ui v w hs.ty hs.u hv h4
 by_cases h5:op=5
 · exact sexpr_5 op ty ut ui v w hs.ty hs.u hv h5
 by_cases h6:op=6
 · exact sexpr_6 op ty ut ui v w hs.ty hs.u hv h6
 exact sexpr_0 op ty ut ui v w hs.ty hs.u hv ⟨h1,h2,h3,h4,h5,h6⟩
end Go.Proofs.YtlnhaajjoplafaaGreatDoor
namespace Go.Proofs.YtlnhaajjoplafaaGreatDoor
open Go.RowKit Go.Shelf
set_option linter.unusedSimpArgs false
set_option maxRecDepth 100000
theorem growC_any (n:Nat)(w:World)(hn:n≤1099511627776):
 Calls Tryz.prog 33 #[.slice none 0 0,.int .i64 n] w fun e w'=>(∃v,e= .returned v∧ON w' w.heap.size v [])∧Below w.heap.size w w':=by
 by_cases h0:n=0
 · subst h0
   refine(Any8.slices_Grow_room Tryz.growN none 0 0 0 w (Nat.le_refl _) (by decide) (by decide) (Nat.le_refl _)).mono ?_
   rintro e w' ⟨rfl,rfl⟩
   exact⟨⟨_,rfl,⟨World.ownsRow_nil _ _ _ _,fun x hx=>by cases hx⟩⟩,Below.refl _ _⟩
 · obtain⟨i0,hi,hz0,hz1,hz2⟩:=info_parts Tryz.infoNode
   refine(Any8.slices_Grow_grow Tryz.growN i0 (.agg #[.int .i64 0,.int .i64 0,.string ⟨#[]⟩,.string ⟨#[]⟩]) hi hz0 (by omega) none 0 0 n [] w (Nat.le_refl _) (by omega) (by rw[hz2];omega) (by omega) (by simp) (fun _=>rfl) (fun a h=>by cases h)).mono ?_
   rintro e w' ⟨rfl,rfl⟩
   refine⟨⟨_,rfl,⟨?_,fun x hx=>by cases hx⟩⟩,?_⟩
   · have hge:=grownCap_ge w (0+n) 0 (Tryz.growN_ren.t 25)
     rw[Nat.zero_add]at hge
     refine⟨rfl,.inr ⟨w.heap.size,_,_,rfl,Nat.le_refl _,heap_alloc_new _ _,Nat.zero_le _,?_,?_,?_⟩⟩
     · exact grownCap_le_maxLen w (0+n) 0 _ (by unfold maxLen;omega)
     · simp only[Array.size_append,List.size_toArray,size_zeroCells,Value.cells,List.length_nil]
       simp
       omega
     · simp[ncells]
   · exact((Below.refl _ w).drew).alloc (Nat.le_refl _) _
theorem concatN_any (ls:List (List Nd))(hne:∀l∈ls,l≠[])(p:Option Addr)(c:Nat)(w:World)(hv:LL w p ls)(hl:(catL ls).length≤100000)(hn:ls.length≤100000):
 Calls Tryz.prog 20 #[.slice p ls.length c] w fun e w'=>KRetF w w' (catL ls) e∧Below w.heap.size w w':=by
 have HL:Hid (LL w p ls):=hv
 have HNE:Hid (∀l∈ls,l≠[]):=hne
 have HSZ:Hid ((catL ls).length≤100000):=hl
 clear hv hne hl
 go_enter Tryz.func20,Tryz.ntmps20
 go_wp2_with fail
 go_loopw [3,5,11] (fun sv _ iv wr=>∃(a r:List (List Nd)) (i m:Nat),Hid (ls=a++r)∧Hid (a.length=i)∧i≤ls.length∧iv= .int .i64 i∧sv= .int .i64 (m:Int)∧Hid (m=(catL a).length)∧m≤100000∧Below w.heap.size w wr) (fun _ _ iv _=>ls.length-(intOf iv).toNat)
 case atStart=>exact⟨[],ls,0,0,rfl,rfl,Nat.zero_le _,rfl,rfl,rfl,by omega,Below.refl _ _⟩
 case round=>
  rename World=>wr
  obtain⟨a,r,i,m,HD,HI,hik,rfl,rfl,HM,hm9,hbr⟩:=hrel
  cases r with
  | nil=>
    have hla:a=ls:=by have:=HD.out;rw[List.append_nil]at this;exact this.symm
    have hil:i=ls.length:=by rw[←HI.out,hla]
    have i3:¬(i:Int)<(ls.length:Int):=by omega
    clear hla hil HM HD HI
    go_wp2_with fail
    refine(growC_any m wr (by omega)).mono ?_
    rintro _ w1 ⟨⟨v1,rfl,hO1⟩,hb1⟩
    obtain⟨q1,c1,rfl⟩:=hO1.any
    have HO1:Hid (ON w1 wr.heap.size (.slice q1 0 c1) []):=hO1
    have hb01:=kqt hbr hb1
    have HW:Hid (w.heap.size≤wr.heap.size):=hbr.size
    clear hO1
    rw[show([]:List Nd).length=0 from rfl]
    go_wp2_with fail
    go_loopw [6,8,27] (fun ov _ iv wr2=>∃(a r:List (List Nd)) (i:Nat) (qo:Option Addr) (mo co:Nat),Hid (ls=a++r)∧Hid (a.length=i)∧i≤ls.length∧iv= .int .i64 i∧ov= .slice qo mo co∧Hid (mo=(catL a).length)∧Hid (ON wr2 wr.heap.size (.slice qo mo co) (catL a))∧Below wr.heap.size wr wr2) (fun _ _ iv _=>ls.length-(intOf iv).toNat)
    case atStart=>exact⟨[],ls,0,_,_,_,rfl,rfl,Nat.zero_le _,rfl,rfl,rfl,HO1,hb1⟩
    case round=>
     rename World=>w2
     obtain⟨a,r,i,qo,mo,co,HD,HI,hik,rfl,rfl,HMO,HO,hb2⟩:=hrel
     have hbr2:=kqt hbr hb2
     cases r with
     | nil=>
       have hla:a=ls:=by have:=HD.out;rw[List.append_nil]at this;exact this.symm
       have hil:i=ls.length:=by rw[←HI.out,hla]
       have i3:¬(i:Int)<(ls.length:Int):=by omega
       have HR:Hid (KRetF w w2 (catL ls) (.returned (.slice qo mo co))):=by
        have h:=HO.out
        rw[HMO.out]at h
        refine⟨qo,co,by rw[HMO.out,hla],?_,fun b o e=>by subst e;exact Nat.le_trans HW.out (ownP_lt HO.out.1 rfl).2⟩
        rw[←hla]
        exact⟨h.nl,h.cap.1,h.cap.2⟩
       clear hla hil HMO HO HD HI
       go_wp2
       go_ret
       exact⟨HR.out,hbr2⟩
     | cons l r=>
       have hlt:i<ls.length:=by rw[←HI.out,HD.out];simp
       have i3:(i:Int)<(ls.length:Int):=by omega
       have hlr:=HL.out.up hbr2
       rw[HD.out]at hlr
       obtain⟨b1,o1,q1',c1',hp1,hb1',x0,hn1,hle1,hcm1⟩:=hlr.here
       rw[HI.out]at x0
       subst hp1
       have hlne:l≠[]:=HNE.out l (by rw[HD.out];simp)
       obtain⟨b2,o2,hq1⟩:∃b o,q1'=some ⟨b,o,none⟩:=by
        rcases hn1 with h | ⟨b,o,h,_⟩
        · exact absurd h hlne
        · exact⟨b,o,h⟩
       subst hq1
       have hsz:(catL a).length+l.length≤100000:=by
        have:=HSZ.out
        rw[HD.out,catL_app]at this
        simp only[catL,List.length_append]at this
        omega
       have HD2:Hid (ls=(a++[l])++r):=by show _=_;rw[HD.out];simp
       have HI2:Hid ((a++[l]).length=i+1):=by show _=_;rw[List.length_append,HI.out];rfl
       have HE:Hid (catL a++l=catL (a++[l])):=by show _=_;rw[catL_app];simp[catL]
       have HN1:Hid (NL w2 (some ⟨b2,o2,none⟩) l):=hn1
       have hgb:∀g,(Value.slice qo mo co).ownBlock=some g→wr.heap.size≤g:=fun g hg=>(ownP_lt HO.out.1 hg).2
       clear hlr hn1 hlne HD HI
       go_wp2_with (first | (at_builtin;refine Hid.out ?_))
       show wpList _ _ _ _ _ _
       refine append_nodesG w2 rfl (.tmp 31) (.tmp 32) rfl wr.heap.size (.slice qo mo co) (catL a) rfl HO.out l l.length rfl b2 o2 c1' HN1.out rfl (by omega) hb2.size ?_
       intro v5 w5 hO5 hg5 ha5
       rw[HE.out]at hO5
       have hb5:Below wr.heap.size wr w5:=hb2.trans (grown_belowG hg5 hgb hb2.size)
       obtain⟨q5,c5,rfl⟩:=hO5.any
       obtain⟨M5,hM5⟩:∃M,M=(catL (a++[l])).length:=⟨_,rfl⟩
       have HM5:Hid (M5=(catL (a++[l])).length):=hM5
       have HO5:Hid (ON w5 wr.heap.size (.slice q5 M5 c5) (catL (a++[l]))):=by rw[hM5];exact hO5
       rw[←hM5]
       clear hO5 hM5 HO HMO
       go_wp2_with fail
       go_roundw
       case rel=>exact⟨a++[l],r,i+1,q5,M5,c5,HD2,HI2,by omega,by go_num,rfl,HM5,HO5,hb5⟩
       case measure=>simp[intOf];omega
  | cons l r=>
    have hlt:i<ls.length:=by rw[←HI.out,HD.out];simp
    have i3:(i:Int)<(ls.length:Int):=by omega
    have hlr:=HL.out.up hbr
    rw[HD.out]at hlr
    obtain⟨b1,o1,q1,c1,hp1,hb1,x0,hn1,hle1,hcm1⟩:=hlr.here
    rw[HI.out]at x0
    subst hp1
    have hsz:(catL a).length+l.length≤100000:=by
     have:=HSZ.out
     rw[HD.out,catL_app]at this
     simp only[catL,List.length_append]at this
     omega
    have HD2:Hid (ls=(a++[l])++r):=by show _=_;rw[HD.out];simp
    have HI2:Hid ((a++[l]).length=i+1):=by show _=_;rw[List.length_append,HI.out];rfl
    have HM2:Hid (m+l.length=(catL (a++[l])).length):=by show _=_;rw[catL_app,HM.out];simp[catL]
    have hml:m+l.length≤100000:=by have:=HM.out;omega
    have i4:¬((m:Int)+(l.length:Int))<0:=by omega
    generalize l.length=L at *
    clear hlr hn1 HD HI HM hsz
    go_wp2_with fail
    go_roundw
    case rel=>exact⟨a++[l],r,i+1,m+L,HD2,HI2,by omega,by go_num,by go_num,HM2,hml,hbr⟩
    case measure=>simp[intOf];omega
end Go.Proofs.YtlnhaajjoplafaaGreatDoor
namespace Go.Proofs.YtlnhaajjoplafaaGreatDoor
open Go.RowKit
set_option maxRecDepth 100000
def TRow (w:World)(base:Nat)(v:Value)(vs:List (List Nd)):Prop:=∃xs:List Value,w.ownsRow base 30 1 v vs.length xs∧∀(i:Nat) u L,xs[i]? =some u→vs[i]? =some L→∃q c,u= .slice q L.length c∧AK0 w L q c∧∀b o,q=some ⟨b,o,none⟩→b<w.heap.size∧v.ownBlock≠some b
theorem TRow.nil (w:World)(base:Nat):TRow w base (.slice none 0 0) []:=⟨[],World.ownsRow_nil _ _ _ _,fun i u L h=>by simp at h⟩
theorem TRow.up {w w':World}{base:Nat}{v:Value}{vs:List (List Nd)}(h:TRow w base v vs)(k:Below w.heap.size w w'):TRow w' base v vs:=by
 obtain⟨xs,h1,h2⟩:=h
 refine⟨xs,ownP_agree h1 (fun g _ hl=>k.block g hl),fun i u L hu hL=>?_⟩
 obtain⟨q,c,h3,h4,h5⟩:=h2 i u L hu hL
 exact⟨q,c,h3,h4.up k,fun b o e=>⟨Nat.lt_of_lt_of_le (h5 b o e).1 k.size,(h5 b o e).2⟩⟩
theorem TRow.slice {w:World}{base:Nat}{v:Value}{vs:List (List Nd)}(h:TRow w base v vs):∃q c,v= .slice q vs.length c∧LL w q vs:=by
 obtain⟨xs,h1,h2⟩:=h
 obtain⟨q,c,rfl⟩:=ownP_slice h1
 refine⟨q,c,rfl,?_⟩
 by_cases h0:vs=[]
 · exact .inl h0
 · have hl:xs.length=vs.length:=by have:=h1.1;omega
   have hpos:0<xs.length:=by rw[hl];exact List.length_pos_iff.2 h0
   obtain⟨g,cap,e,hg,_,_⟩:=ownP_cell h1 (j:=0) (u:=xs[0]) (List.getElem?_eq_getElem hpos)
   cases e
   refine .inr ⟨g,0,rfl,hg,fun i L hL=>?_⟩
   have hi:i<xs.length:=by rw[hl];exact(List.getElem?_eq_some_iff.1 hL).1
   obtain⟨q',c',h3,h4,_⟩:=h2 i xs[i] L (List.getElem?_eq_getElem hi) hL
   obtain⟨g',cap',e',_,hc,_⟩:=ownP_cell h1 (j:=i) (u:=xs[i]) (List.getElem?_eq_getElem hi)
   cases e'
   exact⟨q',c',by rw[Nat.zero_add,hc,h3],h4.nl,h4.le,h4.cm⟩
theorem append_rowT (w:World){ops:Array Oper}{rest:List Oper}{o:Oper}{a:Act}{Q:Exit→Act→World→Prop}(hgd:o.guard=none)(s x:Operand)
 (ho:o.op= .call { callee:=.builtin .append,args:= #[s,x],argTypes:= #[57,57] })
 (base:Nat) (v:Value) (vs:List (List Nd)) (hs:a.eval s=v) (hown:TRow w base v vs) (L:List Nd) (q:Option Addr) (c:Nat) (hA:AK0 w L q c) (hap:∀b o,q=some ⟨b,o,none⟩→b<w.heap.size∧v.ownBlock≠some b)
 (hx:a.eval x= .slice (some ⟨w.heap.size,0,none⟩) 1 1) (hlen:vs.length+1≤1000000) (hbase:base≤w.heap.size) {n:Nat} (hn:L.length=n)
 (h:∀v' w',TRow w' base v' (vs++[L])→Keep (fun b=>v.ownBlock=some b) w w'→wpList Tryz.prog ops Q rest (a.put o.dst v') w'):
 wpList Tryz.prog ops Q (o::rest) a (w.alloc (.cells #[.slice q n c] 30)):=by
 subst hn
 obtain⟨i0,hi,hz0,hz1,hz2⟩:=info_parts Tryz.infoList
 obtain⟨xs,h1,h2⟩:=hown
 have hb:Below w.heap.size w (w.alloc (.cells #[.slice q L.length c] 30)):=(Below.refl _ _).alloc (Nat.le_refl _) _
 have hown2:=ownP_agree (w':=w.alloc (.cells #[.slice q L.length c] 30)) h1 (fun g _ hg=>hb.block g hg)
 refine wpList_append_own_at _ hgd s x 57 ho base 30 i0 _ 1 24 Tryz.underlying57 hi hz0 hz1 hz2 rfl (by decide) v vs.length xs hs hown2 ⟨w.heap.size,0,none⟩ 1 1 [.slice q L.length c] hx rfl ?_ ?_ (by unfold maxLen;omega) (by omega) (Nat.le_trans hbase hb.size) ?_
 · intro j t hj
   match j,hj with
   | 0,hj=>simp at hj;subst hj;simp[Addr.add]
   | (j+1),hj=>simp at hj
 · intro t ht
   simp only[List.mem_singleton]at ht
   subst ht
   rfl
 · intro v' w' g1 g2 _ g4
   have hs2:(w.alloc (.cells #[.slice q L.length c] 30)).heap.size=w.heap.size+1:=by simp
   have hK:Keep (fun b=>v.ownBlock=some b) w w':=⟨g2.os.trans hb.os,g2.tape.trans hb.tape,g2.output.trans hb.output,Nat.le_trans hb.size g2.size,fun k hk hne=>(g2.block k (by omega) (fun e=>hne e.symm)).trans (hb.block k hk)⟩
   have hnew:∀b,b<w.heap.size→v.ownBlock≠some b→v'.ownBlock≠some b:=fun b hb1 hne e=>by
    rcases g4 with g4 | g4
    · rw[g4]at e;exact hne e
    · rw[g4]at e;injection e with e;omega
   have hxl:xs.length=vs.length:=by have:=h1.1;omega
   have hak:∀ {M:List Nd} {q':Option Addr} {c':Nat},AK0 w M q' c'→(∀b o,q'=some ⟨b,o,none⟩→b<w.heap.size∧v.ownBlock≠some b)→AK0 w' M q' c':=fun {M q' c'} hM hq=>by
    refine⟨?_,hM.le,hM.cm⟩
    rcases hM.nl with e | ⟨b,o,e,_⟩
    · exact .inl e
    · subst e
      exact NL.keep hM.nl hK (hq b o rfl).2
   refine h v' w' ⟨xs++[.slice q L.length c],by rw[List.length_append];exact g1,fun i u M hu hM=>?_⟩ hK
   by_cases hi2:i<xs.length
   · rw[List.getElem?_append_left hi2]at hu
     rw[List.getElem?_append_left (by omega)]at hM
     obtain⟨q',c',e1,e2,e3⟩:=h2 i u M hu hM
     exact⟨q',c',e1,hak e2 e3,fun b o e=>⟨Nat.lt_of_lt_of_le (e3 b o e).1 hK.size,hnew b (e3 b o e).1 (e3 b o e).2⟩⟩
   · rw[List.getElem?_append_right (by omega)]at hu
     rw[List.getElem?_append_right (by omega),←hxl]at hM
     have h0:i-xs.length=0:=by have:=(List.getElem?_eq_some_iff.1 hu).1;simp at this;omega
     rw[h0]at hu hM
     simp at hu hM
     subst hu hM
     exact⟨q,c,rfl,hak hA hap,fun b o e=>⟨Nat.lt_of_lt_of_le (hap b o e).1 hK.size,hnew b (hap b o e).1 (hap b o e).2⟩⟩
set_option linter.unusedSimpArgs false
def FilRet (s:Sco)(u:Ui)(e:Ending):Prop:=
 if fif s u=0 then e= .returned (.tuple #[scV (fil s u),.nilIface])else e= .returned (.tuple #[scV ⟨0,eB,eU⟩,eV (fif s u)])
theorem filled_no (s:Sco)(u:Ui)(w:World)(hu:UOk u)(hs:hsl s=false):Calls Tryz.prog 12 #[scV s,uiV u] w fun e w'=>FilRet s u e∧Below w.heap.size w w':=by
 have HH:=hasSlot_any s
 have HW:=fun W=>write_any u.t u.i W hu.1 hu.2
 obtain⟨V,hV⟩:∃V,V=((w.alloc (.cells #[.int .i64 s.op,.string s.ty,.string s.u.t,.string s.u.i] 26)).alloc (.cells #[.string u.t,.string u.i] 24)).alloc (.cells #[.int .i64 0,.string ⟨#[]⟩,.string ⟨#[]⟩,.string ⟨#[]⟩] 26):=⟨_,rfl⟩
 have hbV:Below w.heap.size w V:=by rw[hV];exact kqx
 have HA:Hid (∀W,Below V.heap.size V W→Blk W w.heap.size #[.int .i64 s.op,.string s.ty,.string s.u.t,.string s.u.i] 26∧Blk W (w.heap.size+1) #[.string u.t,.string u.i] 24∧Blk W (w.heap.size+1+1) #[.int .i64 0,.string ⟨#[]⟩,.string ⟨#[]⟩,.string ⟨#[]⟩] 26):=fun W hW=>by
  have h1:Blk V w.heap.size #[.int .i64 s.op,.string s.ty,.string s.u.t,.string s.u.i] 26:=by rw[hV];exact((Blk.new w _ _ rfl).up kqx).up kqx
  have h2:Blk V (w.heap.size+1) #[.string u.t,.string u.i] 24:=by rw[hV];refine(Blk.new (w.alloc _) _ _ ?_).up kqx;simp
  have h3:Blk V (w.heap.size+1+1) #[.int .i64 0,.string ⟨#[]⟩,.string ⟨#[]⟩,.string ⟨#[]⟩] 26:=by rw[hV];exact Blk.new _ _ _ (by simp)
  exact⟨h1.up hW,h2.up hW,h3.up hW⟩
 have HR:Hid (FilRet s u (.returned (.tuple #[scV s,.nilIface]))):=by
  have hf:fif s u=0:=by unfold fif;rw[hs];rfl
  show FilRet _ _ _
  unfold FilRet
  rw[if_pos hf,fil_none hs]
 rw[hs]at HH
 unfold scV uiV at *
 clear HW hs hu
 go_enter Tryz.func12,Tryz.ntmps12
 go_wp2_with fail
 rw[←hV]
 clear hV
 refine(HH _).mono ?_
 rintro _ w1 ⟨rfl,hb1⟩
 clear HH
 obtain⟨hB0,hB1,hB2⟩:=HA.out w1 hb1
 have HA2:Hid (Blk w1 (w.heap.size+1+1) #[.int .i64 0,.string ⟨#[]⟩,.string ⟨#[]⟩,.string ⟨#[]⟩] 26):=hB2
 have c0_0:=hB0.cell 0
 have c0_1:=hB0.cell 1
 have c0_2:=hB0.cell 2
 have c0_3:=hB0.cell 3
 have c2_0:=hB2.cell 0
 have c2_1:=hB2.cell 1
 have c2_2:=hB2.cell 2
 have c2_3:=hB2.cell 3
 have f0:=hB2.free 0
 have f1:=hB2.free 1
 have f2:=hB2.free 2
 have f3:=hB2.free 3
 simp only[List.getElem?_toArray,List.getElem?_cons_zero,List.getElem?_cons_succ]at c0_0 c0_1 c0_2 c0_3 c2_0 c2_1 c2_2 c2_3
 clear HA hB0 hB1 hB2
 go_wp2
 obtain⟨X,hX⟩:∃X,X=((((w1).setCell ⟨w.heap.size+1+1,0,none⟩ (.int .i64 s.op)).setCell ⟨w.heap.size+1+1,1,none⟩ (.string s.ty)).setCell ⟨w.heap.size+1+1,2,none⟩ (.string s.u.t)).setCell ⟨w.heap.size+1+1,3,none⟩ (.string s.u.i):=⟨_,rfl⟩
 rw[←hX]
 obtain⟨hbX,hkX⟩:Blk X (w.heap.size+1+1) #[.int .i64 s.op,.string s.ty,.string s.u.t,.string s.u.i] 26∧Keep (fun x=>x=w.heap.size+1+1) w1 X:=by rw[hX];exact cells4 HA2.out (.int .i64 s.op) (.string s.ty) (.string s.u.t) (.string s.u.i)
 have HBX:Hid (Below w.heap.size w X):=(kqt hbV hb1).trans (hkX.below (kqt hbV hb1).size (fun a e=>by have h2:a=w.heap.size+1+1:=e;omega))
 clear hX
 have z0:=hbX.cell 0
 have z1:=hbX.cell 1
 have z2:=hbX.cell 2
 have z3:=hbX.cell 3
 simp only[List.getElem?_toArray,List.getElem?_cons_zero,List.getElem?_cons_succ]at z0 z1 z2 z3
 refine bodyPost_ret (v:=.tuple #[.agg #[.int .i64 s.op,.string s.ty,.string s.u.t,.string s.u.i],.nilIface]) (by simp[results,Tryz.results12,go_sem,z0,z1,z2,z3]) rfl ⟨?_,HBX.out⟩
 exact HR.out
theorem filled_5 (s:Sco)(u:Ui)(w:World)(hu:UOk u)(hs:s.op=5)(h0:ufault u.t.data.toList u.i.data.toList=0):Calls Tryz.prog 12 #[scV s,uiV u] w fun e w'=>FilRet s u e∧Below w.heap.size w w':=by
 have HH:=hasSlot_any s
 have HW:=fun W=>write_any u.t u.i W hu.1 hu.2
 obtain⟨V,hV⟩:∃V,V=((w.alloc (.cells #[.int .i64 5,.string s.ty,.string s.u.t,.string s.u.i] 26)).alloc (.cells #[.string u.t,.string u.i] 24)).alloc (.cells #[.int .i64 0,.string ⟨#[]⟩,.string ⟨#[]⟩,.string ⟨#[]⟩] 26):=⟨_,rfl⟩
 have hbV:Below w.heap.size w V:=by rw[hV];exact kqx
 have HA:Hid (∀W,Below V.heap.size V W→Blk W w.heap.size #[.int .i64 5,.string s.ty,.string s.u.t,.string s.u.i] 26∧Blk W (w.heap.size+1) #[.string u.t,.string u.i] 24∧Blk W (w.heap.size+1+1) #[.int .i64 0,.string ⟨#[]⟩,.string ⟨#[]⟩,.string ⟨#[]⟩] 26):=fun W hW=>by
  have h1:Blk V w.heap.size #[.int .i64 5,.string s.ty,.string s.u.t,.string s.u.i] 26:=by rw[hV];exact((Blk.new w _ _ rfl).up kqx).up kqx
  have h2:Blk V (w.heap.size+1) #[.string u.t,.string u.i] 24:=by rw[hV];refine(Blk.new (w.alloc _) _ _ ?_).up kqx;simp
  have h3:Blk V (w.heap.size+1+1) #[.int .i64 0,.string ⟨#[]⟩,.string ⟨#[]⟩,.string ⟨#[]⟩] 26:=by rw[hV];exact Blk.new _ _ _ (by simp)
  exact⟨h1.up hW,h2.up hW,h3.up hW⟩
 have HR:Hid (FilRet s u (.returned (.tuple #[.agg #[.int .i64 1,.string ⟨#[]⟩,.string u.t,.string u.i],.nilIface]))):=by
  have hf:fif s u=0:=by unfold fif;rw[(hsl_iff s).2 (by omega),if_pos rfl];exact h0
  show FilRet _ _ _
  unfold FilRet
  rw[if_pos hf]
  unfold fil
  rw[if_pos hs]
  rfl
 rw[(hsl_iff s).2 (by omega)]at HH
 rw[eV_nil h0]at HW
 unfold scV uiV at *
 rw[hs]at *
 clear hs h0 hu
 go_enter Tryz.func12,Tryz.ntmps12
 go_wp2_with fail
 rw[←hV]
 clear hV
 refine(HH _).mono ?_
 rintro _ w1 ⟨rfl,hb1⟩
 clear HH
 obtain⟨hB0,hB1,hB2⟩:=HA.out w1 hb1
 have c1_0:=hB1.cell 0
 have c1_1:=hB1.cell 1
 simp only[List.getElem?_toArray,List.getElem?_cons_zero,List.getElem?_cons_succ]at c1_0 c1_1
 clear hB0 hB1 hB2
 go_wp2_with fail
 refine(HW _).mono ?_
 rintro _ w2 ⟨t,rfl,hb2'⟩
 have hb2:Below V.heap.size V w2:=kqt hb1 hb2'
 clear HW hb2' c1_0 c1_1
 obtain⟨hB0,hB1,hB2⟩:=HA.out w2 hb2
 have HA2:Hid (Blk w2 (w.heap.size+1+1) #[.int .i64 0,.string ⟨#[]⟩,.string ⟨#[]⟩,.string ⟨#[]⟩] 26):=hB2
 have c0_0:=hB0.cell 0
 have c0_1:=hB0.cell 1
 have c0_2:=hB0.cell 2
 have c0_3:=hB0.cell 3
 have c1_0:=hB1.cell 0
 have c1_1:=hB1.cell 1
 have c2_0:=hB2.cell 0
 have c2_1:=hB2.cell 1
 have c2_2:=hB2.cell 2
 have c2_3:=hB2.cell 3
 have f0:=hB2.free 0
 have f1:=hB2.free 1
 have f2:=hB2.free 2
 have f3:=hB2.free 3
 simp only[List.getElem?_toArray,List.getElem?_cons_zero,List.getElem?_cons_succ]at c0_0 c0_1 c0_2 c0_3 c1_0 c1_1 c2_0 c2_1 c2_2 c2_3
 clear HA hB0 hB1 hB2
 go_wp2
 obtain⟨X,hX⟩:∃X,X=((((w2).setCell ⟨w.heap.size+1+1,0,none⟩ (.int .i64 1)).setCell ⟨w.heap.size+1+1,1,none⟩ (.string ⟨#[]⟩)).setCell ⟨w.heap.size+1+1,2,none⟩ (.string u.t)).setCell ⟨w.heap.size+1+1,3,none⟩ (.string u.i):=⟨_,rfl⟩
 rw[←hX]
 obtain⟨hbX,hkX⟩:Blk X (w.heap.size+1+1) #[.int .i64 1,.string ⟨#[]⟩,.string u.t,.string u.i] 26∧Keep (fun x=>x=w.heap.size+1+1) w2 X:=by rw[hX];exact cells4 HA2.out (.int .i64 1) (.string ⟨#[]⟩) (.string u.t) (.string u.i)
 have HBX:Hid (Below w.heap.size w X):=(kqt hbV hb2).trans (hkX.below (kqt hbV hb2).size (fun a e=>by have h2:a=w.heap.size+1+1:=e;omega))
 clear hX
 have z0:=hbX.cell 0
 have z1:=hbX.cell 1
 have z2:=hbX.cell 2
 have z3:=hbX.cell 3
 simp only[List.getElem?_toArray,List.getElem?_cons_zero,List.getElem?_cons_succ]at z0 z1 z2 z3
 refine bodyPost_ret (v:=.tuple #[.agg #[.int .i64 1,.string ⟨#[]⟩,.string u.t,.string u.i],.nilIface]) (by simp[results,Tryz.results12,go_sem,z0,z1,z2,z3]) rfl ⟨?_,HBX.out⟩
 exact HR.out
theorem filled_6 (s:Sco)(u:Ui)(w:World)(hu:UOk u)(hs:s.op=6)(h0:ufault u.t.data.toList u.i.data.toList=0):Calls Tryz.prog 12 #[scV s,uiV u] w fun e w'=>FilRet s u e∧Below w.heap.size w w':=by
 have HH:=hasSlot_any s
 have HW:=fun W=>write_any u.t u.i W hu.1 hu.2
 obtain⟨V,hV⟩:∃V,V=((w.alloc (.cells #[.int .i64 6,.string s.ty,.string s.u.t,.string s.u.i] 26)).alloc (.cells #[.string u.t,.string u.i] 24)).alloc (.cells #[.int .i64 0,.string ⟨#[]⟩,.string ⟨#[]⟩,.string ⟨#[]⟩] 26):=⟨_,rfl⟩
 have hbV:Below w.heap.size w V:=by rw[hV];exact kqx
 have HA:Hid (∀W,Below V.heap.size V W→Blk W w.heap.size #[.int .i64 6,.string s.ty,.string s.u.t,.string s.u.i] 26∧Blk W (w.heap.size+1) #[.string u.t,.string u.i] 24∧Blk W (w.heap.size+1+1) #[.int .i64 0,.string ⟨#[]⟩,.string ⟨#[]⟩,.string ⟨#[]⟩] 26):=fun W hW=>by
  have h1:Blk V w.heap.size #[.int .i64 6,.string s.ty,.string s.u.t,.string s.u.i] 26:=by rw[hV];exact((Blk.new w _ _ rfl).up kqx).up kqx
  have h2:Blk V (w.heap.size+1) #[.string u.t,.string u.i] 24:=by rw[hV];refine(Blk.new (w.alloc _) _ _ ?_).up kqx;simp
  have h3:Blk V (w.heap.size+1+1) #[.int .i64 0,.string ⟨#[]⟩,.string ⟨#[]⟩,.string ⟨#[]⟩] 26:=by rw[hV];exact Blk.new _ _ _ (by simp)
  exact⟨h1.up hW,h2.up hW,h3.up hW⟩
 have HR:Hid (FilRet s u (.returned (.tuple #[.agg #[.int .i64 2,.string ⟨#[]⟩,.string u.t,.string u.i],.nilIface]))):=by
  have hf:fif s u=0:=by unfold fif;rw[(hsl_iff s).2 (by omega),if_pos rfl];exact h0
  show FilRet _ _ _
  unfold FilRet
  rw[if_pos hf]
  unfold fil
  rw[if_neg (by omega),if_pos hs]
  rfl
 rw[(hsl_iff s).2 (by omega)]at HH
 rw[eV_nil h0]at HW
 unfold scV uiV at *
 rw[hs]at *
 clear hs h0 hu
 go_enter Tryz.func12,Tryz.ntmps12
 go_wp2_with fail
 rw[←hV]
 clear hV
 refine(HH _).mono ?_
 rintro _ w1 ⟨rfl,hb1⟩
 clear HH
 obtain⟨hB0,hB1,hB2⟩:=HA.out w1 hb1
 have c1_0:=hB1.cell 0
 have c1_1:=hB1.cell 1
 simp only[List.getElem?_toArray,List.getElem?_cons_zero,List.getElem?_cons_succ]at c1_0 c1_1
 clear hB0 hB1 hB2
 go_wp2_with fail
 refine(HW _).mono ?_
 rintro _ w2 ⟨t,rfl,hb2'⟩
 have hb2:Below V.heap.size V w2:=kqt hb1 hb2'
 clear HW hb2' c1_0 c1_1
 obtain⟨hB0,hB1,hB2⟩:=HA.out w2 hb2
 have HA2:Hid (Blk w2 (w.heap.size+1+1) #[.int .i64 0,.string ⟨#[]⟩,.string ⟨#[]⟩,.string ⟨#[]⟩] 26):=hB2
 have c0_0:=hB0.cell 0
 have c0_1:=hB0.cell 1
 have c0_2:=hB0.cell 2
 have c0_3:=hB0.cell 3
 have c1_0:=hB1.cell 0
 have c1_1:=hB1.cell 1
 have c2_0:=hB2.cell 0
 have c2_1:=hB2.cell 1
 have c2_2:=hB2.cell 2
 have c2_3:=hB2.cell 3
 have f0:=hB2.free 0
 have f1:=hB2.free 1
 have f2:=hB2.free 2
 have f3:=hB2.free 3
 simp only[List.getElem?_toArray,List.getElem?_cons_zero,List.getElem?_cons_succ]at c0_0 c0_1 c0_2 c0_3 c1_0 c1_1 c2_0 c2_1 c2_2 c2_3
 clear HA hB0 hB1 hB2
 go_wp2
 obtain⟨X,hX⟩:∃X,X=((((w2).setCell ⟨w.heap.size+1+1,0,none⟩ (.int .i64 2)).setCell ⟨w.heap.size+1+1,1,none⟩ (.string ⟨#[]⟩)).setCell ⟨w.heap.size+1+1,2,none⟩ (.string u.t)).setCell ⟨w.heap.size+1+1,3,none⟩ (.string u.i):=⟨_,rfl⟩
 rw[←hX]
 obtain⟨hbX,hkX⟩:Blk X (w.heap.size+1+1) #[.int .i64 2,.string ⟨#[]⟩,.string u.t,.string u.i] 26∧Keep (fun x=>x=w.heap.size+1+1) w2 X:=by rw[hX];exact cells4 HA2.out (.int .i64 2) (.string ⟨#[]⟩) (.string u.t) (.string u.i)
 have HBX:Hid (Below w.heap.size w X):=(kqt hbV hb2).trans (hkX.below (kqt hbV hb2).size (fun a e=>by have h2:a=w.heap.size+1+1:=e;omega))
 clear hX
 have z0:=hbX.cell 0
 have z1:=hbX.cell 1
 have z2:=hbX.cell 2
 have z3:=hbX.cell 3
 simp only[List.getElem?_toArray,List.getElem?_cons_zero,List.getElem?_cons_succ]at z0 z1 z2 z3
 refine bodyPost_ret (v:=.tuple #[.agg #[.int .i64 2,.string ⟨#[]⟩,.string u.t,.string u.i],.nilIface]) (by simp[results,Tryz.results12,go_sem,z0,z1,z2,z3]) rfl ⟨?_,HBX.out⟩
 exact HR.out
theorem filled_bad (s:Sco)(u:Ui)(w:World)(hu:UOk u)(hs:hsl s=true)(h0:ufault u.t.data.toList u.i.data.toList≠0):Calls Tryz.prog 12 #[scV s,uiV u] w fun e w'=>FilRet s u e∧Below w.heap.size w w':=by
 have HH:=hasSlot_any s
 have HW:=fun W=>write_any u.t u.i W hu.1 hu.2
 obtain⟨V,hV⟩:∃V,V=((w.alloc (.cells #[.int .i64 s.op,.string s.ty,.string s.u.t,.string s.u.i] 26)).alloc (.cells #[.string u.t,.string u.i] 24)).alloc (.cells #[.int .i64 0,.string ⟨#[]⟩,.string ⟨#[]⟩,.string ⟨#[]⟩] 26):=⟨_,rfl⟩
 have hbV:Below w.heap.size w V:=by rw[hV];exact kqx
 have HA:Hid (∀W,Below V.heap.size V W→Blk W w.heap.size #[.int .i64 s.op,.string s.ty,.string s.u.t,.string s.u.i] 26∧Blk W (w.heap.size+1) #[.string u.t,.string u.i] 24∧Blk W (w.heap.size+1+1) #[.int .i64 0,.string ⟨#[]⟩,.string ⟨#[]⟩,.string ⟨#[]⟩] 26):=fun W hW=>by
  have h1:Blk V w.heap.size #[.int .i64 s.op,.string s.ty,.string s.u.t,.string s.u.i] 26:=by rw[hV];exact((Blk.new w _ _ rfl).up kqx).up kqx
  have h2:Blk V (w.heap.size+1) #[.string u.t,.string u.i] 24:=by rw[hV];refine(Blk.new (w.alloc _) _ _ ?_).up kqx;simp
  have h3:Blk V (w.heap.size+1+1) #[.int .i64 0,.string ⟨#[]⟩,.string ⟨#[]⟩,.string ⟨#[]⟩] 26:=by rw[hV];exact Blk.new _ _ _ (by simp)
  exact⟨h1.up hW,h2.up hW,h3.up hW⟩
 have HR:Hid (FilRet s u (.returned (.tuple #[.agg #[.int .i64 0,.string ⟨#[]⟩,.string ⟨#[]⟩,.string ⟨#[]⟩],.iface 70 (.int .i64 (ufault u.t.data.toList u.i.data.toList))]))):=by
  have hf:fif s u=ufault u.t.data.toList u.i.data.toList:=by unfold fif;rw[hs,if_pos rfl];rfl
  show FilRet _ _ _
  unfold FilRet
  rw[hf,if_neg h0,eV_not h0]
  rfl
 rw[hs]at HH
 rw[eV_not h0]at HW
 generalize ufault u.t.data.toList u.i.data.toList=n at *
 unfold scV uiV at *
 clear hs h0 hu
 go_enter Tryz.func12,Tryz.ntmps12
 go_wp2_with fail
 rw[←hV]
 clear hV
 refine(HH _).mono ?_
 rintro _ w1 ⟨rfl,hb1⟩
 clear HH
 obtain⟨hB0,hB1,hB2⟩:=HA.out w1 hb1
 have c1_0:=hB1.cell 0
 have c1_1:=hB1.cell 1
 simp only[List.getElem?_toArray,List.getElem?_cons_zero,List.getElem?_cons_succ]at c1_0 c1_1
 clear hB0 hB1 hB2
 go_wp2_with fail
 refine(HW _).mono ?_
 rintro _ w2 ⟨t,rfl,hb2'⟩
 have hb2:Below V.heap.size V w2:=kqt hb1 hb2'
 clear HW hb2' c1_0 c1_1
 obtain⟨hB0,hB1,hB2⟩:=HA.out w2 hb2
 have HA2:Hid (Blk w2 (w.heap.size+1+1) #[.int .i64 0,.string ⟨#[]⟩,.string ⟨#[]⟩,.string ⟨#[]⟩] 26):=hB2
 have c2_0:=hB2.cell 0
 have c2_1:=hB2.cell 1
 have c2_2:=hB2.cell 2
 have c2_3:=hB2.cell 3
 have f0:=hB2.free 0
 have f1:=hB2.free 1
 have f2:=hB2.free 2
 have f3:=hB2.free 3
 simp only[List.getElem?_toArray,List.getElem?_cons_zero,List.getElem?_cons_succ]at c2_0 c2_1 c2_2 c2_3
 clear HA hB0 hB1 hB2
 go_wp2
 obtain⟨X,hX⟩:∃X,X=((((w2).setCell ⟨w.heap.size+1+1,0,none⟩ (.int .i64 0)).setCell ⟨w.heap.size+1+1,1,none⟩ (.string ⟨#[]⟩)).setCell ⟨w.heap.size+1+1,2,none⟩ (.string ⟨#[]⟩)).setCell ⟨w.heap.size+1+1,3,none⟩ (.string ⟨#[]⟩):=⟨_,rfl⟩
 rw[←hX]
 obtain⟨hbX,hkX⟩:Blk X (w.heap.size+1+1) #[.int .i64 0,.string ⟨#[]⟩,.string ⟨#[]⟩,.string ⟨#[]⟩] 26∧Keep (fun x=>x=w.heap.size+1+1) w2 X:=by rw[hX];exact cells4 HA2.out (.int .i64 0) (.string ⟨#[]⟩) (.string ⟨#[]⟩) (.string ⟨#[]⟩)
 have HBX:Hid (Below w.heap.size w X):=(kqt hbV hb2).trans (hkX.below (kqt hbV hb2).size (fun a e=>by have h2:a=w.heap.size+1+1:=e;omega))
 clear hX
 have z0:=hbX.cell 0
 have z1:=hbX.cell 1
 have z2:=hbX.cell 2
 have z3:=hbX.cell 3
 simp only[List.getElem?_toArray,List.getElem?_cons_zero,List.getElem?_cons_succ]at z0 z1 z2 z3
 refine bodyPost_ret (v:=.tuple #[.agg #[.int .i64 0,.string ⟨#[]⟩,.string ⟨#[]⟩,.string ⟨#[]⟩],.iface 70 (.int .i64 n)]) (by simp[results,Tryz.results12,go_sem,z0,z1,z2,z3]) rfl ⟨?_,HBX.out⟩
 exact HR.out
theorem filled_any (s:Sco)(u:Ui)(w:World)(hu:UOk u):Calls Tryz.prog 12 #[scV s,uiV u] w fun e w'=>FilRet s u e∧Below w.heap.size w w':=by
 cases hs:hsl s with
 | false=>exact filled_no s u w hu hs
 | true=>
   by_cases h0:ufault u.t.data.toList u.i.data.toList=0
   · rcases(hsl_iff s).1 hs with h | h
     · exact filled_5 s u w hu h h0
     · exact filled_6 s u w hu h h0
   · exact filled_bad s u w hu hs h0
theorem Typed.stays {w w':World}{b:Nat}{f:TypeId}(h:Typed w b f)(k:w'.heap[b]? =w.heap[b]?):Typed w' b f:=by
 obtain⟨cur,fr,h1⟩:=h
 exact⟨cur,fr,k.trans h1⟩
theorem AK0.keepS {S:Nat→Prop}{w w':World}{L:List Nd}{q:Option Addr}{c:Nat}(h:AK0 w L q c)(k:Keep S w w')(hq:∀b o,q=some ⟨b,o,none⟩→¬S b):AK0 w' L q c:=by
 refine⟨?_,h.le,h.cm⟩
 rcases h.nl with e | ⟨b,o,e,_⟩
 · exact .inl e
 · subst e
   exact NL.keep h.nl k (hq b o rfl)
def CdLT (w:World)(p:Option Addr)(cs:List Cnd):Prop:=
 cs=[]∨∃b off,p=some ⟨b,off,none⟩∧Typed w b 67∧∀i c,cs[i]? =some c→∃pe ce,AK0 w c.ex pe ce∧(∀b' o,pe=some ⟨b',o,none⟩→Typed w b' 47)∧
  w.cell? ⟨b,off+i*2,none⟩=some (.bool c.un)∧w.cell? ⟨b,off+i*2+1,none⟩=some (.slice pe c.ex.length ce)
theorem CdLT.cdl {w:World}{p:Option Addr}{cs:List Cnd}(h:CdLT w p cs):CdL w p cs:=by
 rcases h with h | ⟨b,off,h1,h2,h3⟩
 · exact .inl h
 · refine .inr ⟨b,off,h1,h2.lt,fun i c hc=>?_⟩
   obtain⟨pe,ce,g1,_,g3,g4⟩:=h3 i c hc
   exact⟨pe,ce,⟨g1.nl,g1.le,g1.cm⟩,g3,g4⟩
theorem CdLT.keep {S:Nat→Prop}{w w':World}{p:Option Addr}{cs:List Cnd}(h:CdLT w p cs)(k:Keep S w w')(h1:∀g,S g→¬Typed w g 67)(h2:∀g,S g→¬Typed w g 47):CdLT w' p cs:=by
 rcases h with h | ⟨b,off,e1,e2,e3⟩
 · exact .inl h
 · have hb:¬S b:=fun hs=>h1 b hs e2
   refine .inr ⟨b,off,e1,e2.stays (k.block b e2.lt hb),fun i c hc=>?_⟩
   obtain⟨pe,ce,g1,g2,g3,g4⟩:=e3 i c hc
   have q:∀o,w'.cell? ⟨b,o,none⟩=w.cell? ⟨b,o,none⟩:=fun o=>k.cell (p:=⟨b,o,none⟩) e2.lt hb
   exact⟨pe,ce,g1.keepS k (fun b' o e hs=>h2 b' hs (g2 b' o e)),fun b' o e=>(g2 b' o e).stays (k.block b' (g2 b' o e).lt (fun hs=>h2 b' hs (g2 b' o e))),(q _).trans g3,(q _).trans g4⟩
theorem CdLT.up {w w':World}{p:Option Addr}{cs:List Cnd}(h:CdLT w p cs)(k:Below w.heap.size w w'):CdLT w' p cs:=
 h.keep (S:=fun _=>False) ⟨k.os,k.tape,k.output,k.size,fun a ha _=>k.block a ha⟩ (fun _ e=>e.elim) (fun _ e=>e.elim)
theorem Tryz.infoCndC:(Tryz.prog.info? 67).map (fun i=>(i.zero,i.size,i.bytes))=some (some (.agg #[.bool false,.slice none 0 0]),2,32):=by kernel_rfl
theorem cloneN_new (L:List Nd)(b off c:Nat)(w:World)(hv:NL w (some ⟨b,off,none⟩) L)(hl:L.length≤1099511627776):
 Calls Tryz.prog 29 #[.slice (some ⟨b,off,none⟩) L.length c] w fun e w'=>(∃q c',e= .returned (.slice q L.length c')∧AK0 w' L q c'∧∀b o,q=some ⟨b,o,none⟩→Typed w' b 47)∧Below w.heap.size w w':=by
 obtain⟨i0,hi,hz0,hz1,hz2⟩:=info_parts Tryz.infoNodeC
 have HC:Hid (∀j u,(ncellsC L)[j]? =some u→w.cell? ⟨b,off+j,none⟩=some u):=hv.cellsC
 have HW:=hv.wfsC
 have q22:∀(w:World) (a:Option Addr) (n c n' c':Nat),(binOp .eql 30 (.slice a n c) (.slice none n' c')).run Tryz.prog w= .ok (.bool a.isNone) w:=fun w a n c n' c'=>Lib.run_eql_slice_nil w _ _ a n c n' c' Tryz.underlying30
 go_enter Tryz.func29,Tryz.ntmps29
 go_wp2_with (at_builtin;refine wpList_append_own _ rfl _ _ 30 rfl w.heap.size 47 i0 _ 4 48 Tryz.underlying30 hi hz0 hz1 hz2 rfl (by decide) _ _ _ rfl (World.ownsRow_made w #[] 0 (Nat.le_refl _) (Nat.zero_le _) (by simp)) ⟨b,off,none⟩ L.length c (ncellsC L) rfl ?qc1 ?qc2 ?qc3 ?qc4 ?qc5 ?qc6 ?_)
 case qc1=>exact ncellsC_length L
 case qc2=>
  intro j u hu
  have hh:=HC.out j u hu
  have hlt:=World.block_lt_of_cell? w _ hh
  have hadd:(⟨b,off,none⟩:Addr).add j=⟨b,off+j,none⟩:=by unfold Addr.add;split<;>simp_all
  rw[hadd]
  exact(Below.cell (p:=⟨b,off+j,none⟩) ((Below.refl w.heap.size w).alloc (Nat.le_refl _) _) hlt).trans hh
 case qc3=>exact ncellsC_one L
 case qc4=>unfold maxLen;omega
 case qc5=>omega
 case qc6=>simp
 intro v' w' h1 h2 h3
 have hT:Hid (∀b o n c,v'= .slice (some ⟨b,o,none⟩) n c→Typed w' b 47):=fun b o n c e=>by
  rcases h1.2 with⟨rfl,_⟩ | ⟨g,cap,cur,rfl,_,hgg,_⟩
  · cases e
  · cases e;exact⟨_,_,hgg⟩
 obtain⟨q,c',rfl,hnt,hl',hm'⟩:=NL.of_rowC HW h1
 have hbel:Below w.heap.size w w':=((Below.refl w.heap.size w).alloc (Nat.le_refl _) (.cells #[] 47)).grown h2 (by simp) (fun k hk=>by simp[Value.ownBlock]at hk;omega)
 clear h1 h2 h3 hi hz0 hz1 hz2
 go_wp2
 go_ret
 exact⟨⟨q,c',rfl,⟨hnt,hl',hm'⟩,fun b o e=>hT.out b o _ _ (by rw[e])⟩,hbel⟩
def ccells (w:World)(b off n:Nat):List Value:=(List.range (n*2)).map fun j=>(w.cell? ⟨b,off+j,none⟩).getD .nilIface
theorem ccells_length (w:World)(b off n:Nat):(ccells w b off n).length=n*2:=by simp[ccells]
theorem CdL.ccells {w:World}{b off:Nat}{cs:List Cnd}(h:CdL w (some ⟨b,off,none⟩) cs)(hne:cs≠[]):
 b<w.heap.size∧(∀j u,(ccells w b off cs.length)[j]? =some u→w.cell? ⟨b,off+j,none⟩=some u∧u.oneCell'=true)∧∀i c,cs[i]? =some c→(ccells w b off cs.length)[i*2]? =some (.bool c.un):=by
 have key:∀j,j<cs.length*2→∃u,w.cell? ⟨b,off+j,none⟩=some u∧u.oneCell'=true:=fun j hj=>by
  obtain⟨b',o',pe,ce,e,_,_,h1,h2⟩:=h.at (i:=j / 2) (by omega)
  cases e
  have hm:j=j / 2*2∨j=j / 2*2+1:=by omega
  rcases hm with hm | hm
  · rw[hm];exact⟨_,h1,rfl⟩
  · rw[hm];exact⟨_,h2,rfl⟩
 have hat:∀j,j<cs.length*2→(Go.Proofs.YtlnhaajjoplafaaGreatDoor.ccells w b off cs.length)[j]? =w.cell? ⟨b,off+j,none⟩:=fun j hj=>by
  obtain⟨u,h1,_⟩:=key j hj
  unfold Go.Proofs.YtlnhaajjoplafaaGreatDoor.ccells
  rw[List.getElem?_map,List.getElem?_range hj,Option.map_some,h1]
  rfl
 refine⟨?_,fun j u hu=>?_,fun i c hc=>?_⟩
 · rcases h with h | ⟨b',off',e,hb,_⟩
   · exact absurd h hne
   · cases e;exact hb
 · have hj:j<cs.length*2:=by
    have:=(List.getElem?_eq_some_iff.1 hu).1
    rwa [ccells_length]at this
   rw[hat j hj]at hu
   obtain⟨u',h1,h2⟩:=key j hj
   rw[h1]at hu
   cases hu
   exact⟨h1,h2⟩
 · have hi:i<cs.length:=(List.getElem?_eq_some_iff.1 hc).1
   rw[hat _ (by omega)]
   rcases h with rfl | ⟨b',off',e,hb,h3⟩
   · exact absurd rfl hne
   · cases e
     obtain⟨_,_,_,h1,_⟩:=h3 i c hc
     exact h1
def CopyRet (w w':World)(S:List Value)(n:Nat)(e:Ending):Prop:=
 ∃q c',e= .returned (.slice q n c')∧n≤c'∧c'≤maxLen∧(n=0∨∃(g:Nat) (cur:Array Value),q=some ⟨g,0,none⟩∧w.heap.size≤g∧Blk w' g cur 67∧∀(j:Nat) u,S[j]? =some u→cur[j]? =some u)
theorem cloneC_fn (a:Addr)(n c:Nat)(S:List Value)(w:World)(hS:S.length=n*2)(hc:∀(j:Nat) u,S[j]? =some u→w.cell? (a.add j)=some u∧u.oneCell'=true)(hl:n≤1000000):
 Calls Tryz.prog 28 #[.slice (some a) n c] w fun e w'=>CopyRet w w' S n e∧Below w.heap.size w w':=by
 obtain⟨i0,hi,hz0,hz1,hz2⟩:=info_parts Tryz.infoCndC
 have HC:Hid (∀(j:Nat) u,S[j]? =some u→w.cell? (a.add j)=some u∧u.oneCell'=true):=hc
 have q22:∀(w:World) (a:Option Addr) (n c n' c':Nat),(binOp .eql 27 (.slice a n c) (.slice none n' c')).run Tryz.prog w= .ok (.bool a.isNone) w:=fun w a n c n' c'=>Lib.run_eql_slice_nil w _ _ a n c n' c' Tryz.underlying27
 clear hc
 go_enter Tryz.func28,Tryz.ntmps28
 go_wp2_with (at_builtin;refine wpList_append_own _ rfl _ _ 27 rfl w.heap.size 67 i0 _ 2 32 Tryz.underlying27 hi hz0 hz1 hz2 rfl (by decide) _ _ _ rfl (World.ownsRow_made w #[] 0 (Nat.le_refl _) (Nat.zero_le _) (by simp)) a n c S rfl ?qc1 ?qc2 ?qc3 ?qc4 ?qc5 ?qc6 ?_)
 case qc1=>exact hS
 case qc2=>
  intro j u hu
  have hh:=(HC.out j u hu).1
  have hlt:=World.block_lt_of_cell? w _ hh
  exact(Below.cell (p:=a.add j) ((Below.refl w.heap.size w).alloc (Nat.le_refl _) _) hlt).trans hh
 case qc3=>
  intro u hu
  obtain⟨j,hj⟩:=List.getElem?_of_mem hu
  exact(HC.out j u hj).2
 case qc4=>unfold maxLen;omega
 case qc5=>omega
 case qc6=>simp
 intro v' w' h1 h2 h3
 have hR:Hid (∃q c',v'= .slice q n c'∧n≤c'∧c'≤maxLen∧(n=0∨∃(g:Nat) (cur:Array Value),q=some ⟨g,0,none⟩∧w.heap.size≤g∧Blk w' g cur 67∧∀(j:Nat) u,S[j]? =some u→cur[j]? =some u)):=by
  have hlen:([]++S).length=n*2:=by simpa using hS
  rcases h1.2 with⟨rfl,h0⟩ | ⟨g,cap,cur,rfl,hb,hgg,hle,hm,hsz,htk⟩
  · have:n=0:=by omega
    subst this
    exact⟨none,0,rfl,Nat.le_refl _,Nat.zero_le _,.inl rfl⟩
  · refine⟨some ⟨g,0,none⟩,cap,by simp,by omega,hm,.inr ⟨g,cur,rfl,hb,⟨hgg⟩,fun j u hu=>?_⟩⟩
    have hj:j<n*2:=by rw[←hS];exact(List.getElem?_eq_some_iff.1 hu).1
    rw[←htk,List.getElem?_take_of_lt hj]at hu
    simpa using hu
 have hbel:Below w.heap.size w w':=((Below.refl w.heap.size w).alloc (Nat.le_refl _) (.cells #[] 67)).grown h2 (by simp) (fun k hk=>by simp[Value.ownBlock]at hk;omega)
 obtain⟨q,c',rfl,g⟩:=hR.out
 have hR':Hid _:=g
 clear h1 h2 h3 hi hz0 hz1 hz2 hR g
 go_wp2
 go_ret
 exact⟨⟨q,c',rfl,hR'.out⟩,hbel⟩
structure Cpd (w:World)(g:Nat)(cs:List Cnd)(k:Nat):Prop where
 ex:∃cur:Array Value,Blk w g cur 67∧cs.length*2≤cur.size∧∀(i:Nat) c,cs[i]? =some c→cur[i*2]? =some (.bool c.un)∧(i<k→∃q n,cur[i*2+1]? =some (.slice q c.ex.length n)∧AK0 w c.ex q n∧∀b o,q=some ⟨b,o,none⟩→Typed w b 47)
theorem Cpd.keep {w w':World}{g:Nat}{cs:List Cnd}{k:Nat}(h:Cpd w g cs k)(hb:Below w.heap.size w w'):Cpd w' g cs k:=by
 obtain⟨cur,h1,h2,h3⟩:=h.ex
 refine⟨cur,h1.up hb,h2,fun i c hc=>⟨(h3 i c hc).1,fun hi=>?_⟩⟩
 obtain⟨q,n,e1,e2,e3⟩:=(h3 i c hc).2 hi
 exact⟨q,n,e1,e2.up hb,fun b o e=>(e3 b o e).stays (hb.block b (e3 b o e).lt)⟩
theorem Cpd.put {w:World}{g:Nat}{cs:List Cnd}{k:Nat}(h:Cpd w g cs k){c:Cnd}(hc:cs[k]? =some c){q:Option Addr}{n:Nat}(hA:AK0 w c.ex q n)(hT:∀b o,q=some ⟨b,o,none⟩→Typed w b 47):
 Cpd (w.setCell ⟨g,k*2+1,none⟩ (.slice q c.ex.length n)) g cs (k+1):=by
 obtain⟨cur,h1,h2,h3⟩:=h.ex
 obtain⟨g1,g2⟩:=h1.set (j:=k*2+1) (z:=.slice q c.ex.length n) rfl
 have hk:k<cs.length:=(List.getElem?_eq_some_iff.1 hc).1
 have hne:∀b,Typed w b 47→¬b=g:=fun b ht e=>by subst e;exact ht.ne ⟨_,_,h1.blk⟩ (by decide) rfl
 refine⟨cur.setIfInBounds (k*2+1) (.slice q c.ex.length n),g1,by simpa using h2,fun i d hd=>⟨?_,fun hi=>?_⟩⟩
 · rw[Array.getElem?_setIfInBounds_ne (by omega)]
   exact(h3 i d hd).1
 · by_cases hik:i=k
   · subst hik
     rw[hc]at hd
     cases hd
     refine⟨q,n,?_,hA.keepS g2 (fun b o e=>hne b (hT b o e)),fun b o e=>(hT b o e).stays (g2.block b (hT b o e).lt (hne b (hT b o e)))⟩
     rw[Array.getElem?_setIfInBounds_self_of_lt (by omega)]
   · obtain⟨q',n',e1,e2,e3⟩:=(h3 i d hd).2 (by omega)
     refine⟨q',n',?_,e2.keepS g2 (fun b o e=>hne b (e3 b o e)),fun b o e=>(e3 b o e).stays (g2.block b (e3 b o e).lt (hne b (e3 b o e)))⟩
     rw[Array.getElem?_setIfInBounds_ne (by omega)]
     exact e1
theorem Cpd.cdlt {w:World}{g:Nat}{cs:List Cnd}(h:Cpd w g cs cs.length):CdLT w (some ⟨g,0,none⟩) cs:=by
 obtain⟨cur,h1,h2,h3⟩:=h.ex
 refine .inr ⟨g,0,rfl,⟨_,_,h1.blk⟩,fun i c hc=>?_⟩
 have hi:i<cs.length:=(List.getElem?_eq_some_iff.1 hc).1
 obtain⟨q,n,e1,e2,e3⟩:=(h3 i c hc).2 hi
 refine⟨q,n,e2,e3,?_,?_⟩
 · rw[Nat.zero_add,h1.cell];exact(h3 i c hc).1
 · rw[Nat.zero_add,h1.cell];exact e1
theorem Cpd.at {w:World}{g:Nat}{cs:List Cnd}{k:Nat}(h:Cpd w g cs k){j:Nat}(hj:j<cs.length*2):∃v,w.cell? ⟨g,j,none⟩=some v∧w.frozen? ⟨g,j,none⟩=false:=by
 obtain⟨cur,h1,h2,_⟩:=h.ex
 exact⟨cur[j],by rw[h1.cell];exact Array.getElem?_eq_getElem (by omega),h1.free _⟩
def CpRet (w':World)(cs:List Cnd)(e:Ending):Prop:=∃q c',e= .returned (.slice q cs.length c')∧CdLT w' q cs∧cs.length≤c'∧c'≤maxLen
theorem copied_none (pc:Option Addr)(cc:Nat)(w:World):
 Calls Tryz.prog 13 #[.slice pc 0 cc] w fun e w'=>CpRet w' [] e∧Below w.heap.size w w':=by
 have HC:∀W,Calls Tryz.prog 28 #[.slice pc 0 cc] W fun e w'=>(∃q c',e= .returned (.slice q 0 c')∧c'≤maxLen)∧Below W.heap.size W w':=fun W=>by
  cases pc with
  | none=>
    have q22:∀(w:World) (a:Option Addr) (n c n' c':Nat),(binOp .eql 27 (.slice a n c) (.slice none n' c')).run Tryz.prog w= .ok (.bool a.isNone) w:=fun w a n c n' c'=>Lib.run_eql_slice_nil w _ _ a n c n' c' Tryz.underlying27
    go_enter Tryz.func28,Tryz.ntmps28
    go_wp2
    go_ret
    exact⟨⟨none,0,rfl,Nat.zero_le _⟩,Below.refl _ _⟩
  | some a=>
    refine(cloneC_fn a 0 cc [] W rfl (fun j u h=>by simp at h) (by omega)).mono ?_
    rintro e w' ⟨⟨q,c',h1,_,h3,_⟩,h5⟩
    exact⟨⟨q,c',h1,h3⟩,h5⟩
 go_enter Tryz.func13,Tryz.ntmps13
 go_wp2_with fail
 refine(HC _).mono ?_
 rintro _ w1 ⟨⟨q,c',rfl,hc'⟩,hb1⟩
 have HB:Hid (Below w.heap.size w w1∧c'≤maxLen):=⟨hb1,hc'⟩
 clear HC hb1 hc'
 go_wp2
 go_loopw [10] (fun i wr=>i= .int .i64 0∧Below w.heap.size w wr) (fun _ _=>0)
 case atStart=>exact⟨rfl,HB.out.1⟩
 case round=>
  obtain⟨rfl,hb⟩:=hrel
  go_wp2
  go_ret
  exact⟨⟨q,c',rfl,.inl rfl,Nat.zero_le _,HB.out.2⟩,hb⟩
theorem copied_some (cs:List Cnd)(pc:Option Addr)(cc:Nat)(w:World)(h:CdL w pc cs)(hx:∀c∈cs,c.ex≠[]∧c.ex.length≤200)(hne:cs≠[])(hl:cs.length≤4):
 Calls Tryz.prog 13 #[.slice pc cs.length cc] w fun e w'=>CpRet w' cs e∧Below w.heap.size w w':=by
 obtain⟨b,off,rfl⟩:∃b off,pc=some ⟨b,off,none⟩:=by
  rcases h with h | ⟨b,off,e,_⟩
  · exact absurd h hne
  · exact⟨b,off,e⟩
 obtain⟨hbw,hS,hS2⟩:=h.ccells hne
 have HC:=fun(W:World) (k:Below w.heap.size w W)=>cloneC_fn ⟨b,off,none⟩ cs.length cc (ccells w b off cs.length) W (ccells_length _ _ _ _) (fun j u hu=>by
  obtain⟨g1,g2⟩:=hS j u hu
  have hadd:(⟨b,off,none⟩:Addr).add j=⟨b,off+j,none⟩:=by unfold Addr.add;split<;>simp_all
  rw[hadd]
  exact⟨(k.cell (p:=⟨b,off+j,none⟩) hbw).trans g1,g2⟩) (by omega)
 have HSL:Hid ((ccells w b off cs.length).length=cs.length*2∧∀i c,cs[i]? =some c→(ccells w b off cs.length)[i*2]? =some (.bool c.un)):=⟨ccells_length _ _ _ _,hS2⟩
 generalize ccells w b off cs.length=S at *
 have HP:Hid (CdL w (some ⟨b,off,none⟩) cs∧∀c∈cs,c.ex≠[]∧c.ex.length≤200):=⟨h,hx⟩
 have HLN:Hid (cs≠[]):=hne
 clear h hx hne hS hS2
 go_enter Tryz.func13,Tryz.ntmps13
 go_wp2_with fail
 refine(HC _ (Below.refl _ _)).mono ?_
 rintro _ w1 ⟨⟨q,c',rfl,hle,hcm,hq⟩,hb1⟩
 obtain⟨g,cur,rfl,hg,hblk,hcur⟩:∃(g:Nat) (cur:Array Value),q=some ⟨g,0,none⟩∧w.heap.size≤g∧Blk w1 g cur 67∧∀(j:Nat) u,S[j]? =some u→cur[j]? =some u:=by
  rcases hq with h0 | h0
  · exact absurd (List.eq_nil_of_length_eq_zero h0) HLN.out
  · exact h0
 have H1:Hid (Cpd w1 g cs 0):=⟨cur,hblk,by
  obtain⟨e1,_⟩:=HSL.out
  have h2:=hcur (S.length-1) (S[S.length-1]'(by have:=List.length_pos_iff.2 HLN.out;omega)) (List.getElem?_eq_getElem _)
  have:=(Array.getElem?_eq_some_iff.1 h2).1
  omega,fun i c hc=>⟨hcur _ _ (HSL.out.2 i c hc),fun h=>absurd h (Nat.not_lt_zero _)⟩⟩
 have HB:Hid (Below w.heap.size w w1∧cs.length≤c'∧c'≤maxLen):=⟨hb1,hle,hcm⟩
 clear HC hq hblk hcur hb1 hle hcm HSL
 go_wp2
 go_loopw [10] (fun i wr=>∃k:Nat,k≤cs.length∧i= .int .i64 k∧Below w.heap.size w wr∧Cpd wr g cs k) (fun i _=>cs.length-(intOf i).toNat)
 case atStart=>exact⟨0,Nat.zero_le _,rfl,HB.out.1,H1.out⟩
 case round=>
  obtain⟨k,hk,rfl,hb,hcp⟩:=hrel
  by_cases hlt:k<cs.length
  · have i1:(k:Int)<(cs.length:Int):=by omega
    obtain⟨b',o',pe,ce,he,_,hak,u0',u1'⟩:=HP.out.1.at hlt
    cases he
    have u0:=(hb.cell (p:=⟨b,off+k*2,none⟩) hbw).trans u0'
    have u1:=(hb.cell (p:=⟨b,off+k*2+1,none⟩) hbw).trans u1'
    obtain⟨hxe,hxl⟩:=HP.out.2 _ (List.getElem_mem hlt)
    obtain⟨b2,o2,rfl⟩:∃b2 o2,pe=some ⟨b2,o2,none⟩:=by
     rcases hak.nl with h0 | ⟨b2,o2,e,_⟩
     · exact absurd h0 hxe
     · exact⟨b2,o2,e⟩
    have HN:=fun(W:World) (hW:Below wr.heap.size wr W)=>cloneN_new cs[k].ex b2 o2 ce W ((hak.nl.up hb).up hW) (by omega)
    have HCP:Hid (Cpd wr g cs k):=hcp
    have HCK:Hid (cs[k]? =some cs[k]):=List.getElem?_eq_getElem hlt
    obtain⟨cn,hcn⟩:∃cn,cn=cs[k]:=⟨_,rfl⟩
    rw[←hcn]at u0 u1 HN HCK
    have HGW:Hid (w.heap.size≤g):=hg
    clear u0' u1' hak hxe hxl hcp hcn hg
    go_wp2_with fail
    refine(HN _ kqx).mono ?_
    rintro _ w3 ⟨⟨q3,c3,rfl,hA3,hT3⟩,hb3⟩
    have hbw3:Below wr.heap.size wr w3:=kqt kqx hb3
    have HC3:Hid (Cpd w3 g cs k):=HCP.out.keep hbw3
    obtain⟨z,hz,hzf⟩:=HC3.out.at (j:=k*2+1) (by omega)
    have HPU:Hid (Cpd (w3.setCell ⟨g,k*2+1,none⟩ (.slice q3 cn.ex.length c3)) g cs (k+1)):=HC3.out.put HCK.out hA3 hT3
    have HBB:Hid (Below w.heap.size w (w3.setCell ⟨g,k*2+1,none⟩ (.slice q3 cn.ex.length c3))):=(kqt hb hbw3).setCell (p:=⟨g,k*2+1,none⟩) HGW.out _
    clear HN HCP hb3 hA3 hT3 u0 u1
    go_wp2
    go_roundw
    case rel=>exact⟨k+1,by omega,by go_num,by simpa using HBB.out,by simpa using HPU.out⟩
    case measure=>simp[intOf];omega
  · have i1:¬(k:Int)<(cs.length:Int):=by omega
    have hkk:k=cs.length:=by omega
    have HE:Hid (Cpd wr g cs cs.length):=by show Cpd _ _ _ _;rw[←hkk];exact hcp
    clear hcp hkk
    go_wp2
    go_ret
    exact⟨⟨some ⟨g,0,none⟩,c',rfl,HE.out.cdlt,HB.out.2⟩,hb⟩
theorem copied_any (cs:List Cnd)(pc:Option Addr)(cc:Nat)(w:World)(h:CdL w pc cs)(hx:∀c∈cs,c.ex≠[]∧c.ex.length≤200)(hl:cs.length≤4):
 Calls Tryz.prog 13 #[.slice pc cs.length cc] w fun e w'=>CpRet w' cs e∧Below w.heap.size w w':=by
 by_cases hne:cs=[]
 · subst hne;exact copied_none pc cc w
 · exact copied_some cs pc cc w h hx hne hl
end Go.Proofs.YtlnhaajjoplafaaGreatDoor
