import Derived.Test.YtipcngglmebiiaaGreatDoorA12
import Derived.Maps.AppendAt
import Derived.Laws.AppendOwnNone
import Derived.Test.YtipcngglmebiiaaGreatDoorA3
import Derived.Test.YtipcngglmebiiaaGreatDoorA9
import Derived.Test.YtipcngglmebiiaaGreatDoorA8
import Derived.Test.YtipcngglmebiiaaGreatDoorA11
import Derived.Test.YtipcngglmebiiaaGreatDoorA2
import Derived.Test.YtipcngglmebiiaaGreatDoorShelfGrow
set_option linter.unusedVariables false
set_option maxHeartbeats 12000000
namespace Go.Proofs.YtipcngglmebiiaaGreatDoor
open Go.RowKit
structure Blk (w:World)(B:Nat)(cs:Array Value)(T:TypeId):Prop where
 blk:w.heap[B]? =some (.cells cs T)
theorem Blk.lt {w:World}{B:Nat}{cs:Array Value}{T:TypeId}(h:Blk w B cs T):B<w.heap.size:=(Array.getElem?_eq_some_iff.1 h.blk).1
theorem Blk.low {N:Nat}{w w':World}{B:Nat}{cs:Array Value}{T:TypeId}(h:Blk w B cs T)(k:Below N w w')(hB:B<N):Blk w' B cs T:=⟨(k.block B hB).trans h.blk⟩
theorem Blk.up {w w':World}{B:Nat}{cs:Array Value}{T:TypeId}(h:Blk w B cs T)(k:Below w.heap.size w w'):Blk w' B cs T:=h.low k h.lt
theorem Blk.grown {w w':World}{B:Nat}{cs:Array Value}{T:TypeId}{r:Option Nat}(h:Blk w B cs T)(k:w.grownBy w' r)(hr:r≠some B):Blk w' B cs T:=⟨(k.block B h.lt (fun e=>hr e.symm)).trans h.blk⟩
theorem Blk.keep {S:Nat→Prop}{w w':World}{B:Nat}{cs:Array Value}{T:TypeId}(h:Blk w B cs T)(k:Keep S w w')(hr:¬S B):Blk w' B cs T:=⟨(k.block B h.lt hr).trans h.blk⟩
theorem Blk.cell {w:World}{B:Nat}{cs:Array Value}{T:TypeId}(h:Blk w B cs T)(j:Nat):w.cell? ⟨B,j,none⟩=cs[j]? :=by simp[World.cell?, h.blk]
theorem Blk.free {w:World}{B:Nat}{cs:Array Value}{T:TypeId}(h:Blk w B cs T)(j:Nat):w.frozen? ⟨B,j,none⟩=false:=by simp[World.frozen?, h.blk]
theorem Blk.new (w:World){B:Nat}(cs:Array Value)(T:TypeId)(hB:B=w.heap.size):Blk (w.alloc (.cells cs T)) B cs T:=by subst hB;exact⟨(MapKept.heap_alloc w _).1⟩
theorem Blk.set {w w':World}{B j:Nat}{cs:Array Value}{T:TypeId}{z:Value}(h:Blk w B cs T)(hw:w'=w.setCell ⟨B,j,none⟩ z):Blk w' B (cs.setIfInBounds j z) T∧Keep (fun a=>a=B) w w':=by
 subst hw
 exact⟨⟨heap_setCell_same w B j _ _ z h.blk⟩,keep_set w B j z⟩
theorem grown_belowG {N:Nat}{w w':World}{r:Option Nat}(h:w.grownBy w' r)(hr:∀g,r=some g→N≤g)(hN:N≤w.heap.size):Below N w w':=⟨h.os,h.tape,h.output,h.size,fun a ha=>h.block a (by omega) (fun e=>by have:=hr a e.symm;omega)⟩
theorem wp_append_at {P:Program}(w:World){o:Oper}{a:Act}{K:Act→World→Prop}{Q:Exit→Act→World→Prop}(s x:Operand)(t:TypeId)
 (ho:o.op= .call { callee:=.builtin .append,args:= #[s,x],argTypes:= #[t,t] })
 (base:Nat) (e:TypeId) (i:TypeInfo) (z:Value) (size bytes:Nat) (ht:P.underlying t=some (.slice e)) (hi:P.info? e=some i) (hz:i.zero=some z)
 (hsize:i.size=size) (hby:i.bytes=bytes) (hzs:z.cells.size=size) (hsz:0<size)
 (v:Value) (n:Nat) (xs:List Value) (hs:a.eval s=v) (hown:w.ownsRow base e size v n xs)
 (ad:Addr) (m c:Nat) (news:List Value) (hx:a.eval x= .slice (some ad) m c) (hl:news.length=m*size) (hnews:∀j u,news[j]? =some u→w.cell? (ad.add j)=some u) (h1:∀u∈news,u.oneCell'=true)
 (h63:n+m≤maxLen) (hbytes:(n+m)*bytes≤140737488355328) (hbase:base≤w.heap.size)
 (h:∀v' w',w'.ownsRow base e size v' (n+m) (xs++news)→w.grownBy w' v.ownBlock→(v'.ownBlock=v.ownBlock∨v'.ownBlock=some w.heap.size)→K (a.put o.dst v') w'):o.wp P a w K Q:=by
 obtain⟨v',w',hr,h2,h3,h4,h5⟩:=run_append_own_at (P:=P) w base t o.type e i z size bytes ht hi hz hsize hby hzs hsz v n xs hown ad m c news hl hnews h1 h63 hbytes hbase
 unfold Oper.wp execOp
 simp only[ho,resolve,invoke,builtin,Sem.run_bind,Sem.run_pure,Result.andThen_ok,List.map_toArray,List.map_cons,List.map_nil,hs,hx,hr]
 exact h v' w' h2 h3 h5
theorem wp_append_none {P:Program}(w:World){o:Oper}{a:Act}{K:Act→World→Prop}{Q:Exit→Act→World→Prop}(s x:Operand)(t:TypeId)
 (ho:o.op= .call { callee:=.builtin .append,args:= #[s,x],argTypes:= #[t,t] })
 (base:Nat) (e:TypeId) (i:TypeInfo) (size:Nat) (ht:P.underlying t=some (.slice e)) (hi:P.info? e=some i)
 (v:Value) (n:Nat) (xs:List Value) (hs:a.eval s=v) (hown:w.ownsRow base e size v n xs) (hx:a.eval x= .slice none 0 0)
 (h:K (a.put o.dst v) w):o.wp P a w K Q:=by
 have hrun:=run_append_owned_none (P:=P) (w:=w) base t o.type e i size ht hi v n xs hown
 unfold Oper.wp
 simp[execOp,ho,resolve,invoke,builtin,hs,hx,hrun,Result.andThen]
 exact h
def scoC (s:Sco):List Value:=[.int .i64 s.op,.string s.ty,.string s.u.t,.string s.u.i]
def sdV (s:Sco)(v:ByteArray):Value:=.agg #[.int .i64 s.op,.string s.ty,.string s.u.t,.string s.u.i,.string v]
def cndV (c:Cnd)(pe:Option Addr)(ce:Nat):Value:=.agg #[.bool c.un,.slice pe c.ex.length ce]
def poV (p:Po)(pc:Option Addr)(cc:Nat):Value:=
 .agg #[.string p.nm,.bool p.fb,.int .i64 p.who.op,.string p.who.ty,.string p.who.u.t,.string p.who.u.i,.int .i64 p.act.op,.string p.act.ty,.string p.act.u.t,.string p.act.u.i,.int .i64 p.what.op,.string p.what.ty,.string p.what.u.t,.string p.what.u.i,.slice pc p.cs.length cc]
def CdL (w:World)(p:Option Addr)(cs:List Cnd):Prop:=
 cs=[]∨∃b off,p=some ⟨b,off,none⟩∧b<w.heap.size∧∀i c,cs[i]? =some c→∃pe ce,AK w c.ex pe ce∧
  w.cell? ⟨b,off+i*2,none⟩=some (.bool c.un)∧w.cell? ⟨b,off+i*2+1,none⟩=some (.slice pe c.ex.length ce)
theorem CdL.up {w w':World}{p:Option Addr}{cs:List Cnd}(h:CdL w p cs)(k:Below w.heap.size w w'):CdL w' p cs:=by
 rcases h with h | ⟨b,off,h1,h2,h3⟩
 · exact .inl h
 · refine .inr ⟨b,off,h1,Nat.lt_of_lt_of_le h2 k.size,fun i c hc=>?_⟩
   obtain⟨pe,ce,q0,q1⟩:=h3 i c hc
   have q:∀o,w'.cell? ⟨b,o,none⟩=w.cell? ⟨b,o,none⟩:=fun o=>k.cell (p:=⟨b,o,none⟩) h2
   refine⟨pe,ce,q0.up k,?_⟩
   simp only[q]
   exact q1
theorem CdL.at {w:World}{p:Option Addr}{cs:List Cnd}(h:CdL w p cs){i:Nat}(hi:i<cs.length):∃b off pe ce,p=some ⟨b,off,none⟩∧b<w.heap.size∧AK w cs[i].ex pe ce∧
 w.cell? ⟨b,off+i*2,none⟩=some (.bool cs[i].un)∧w.cell? ⟨b,off+i*2+1,none⟩=some (.slice pe cs[i].ex.length ce):=by
 rcases h with rfl | ⟨b,off,h1,h2,h3⟩
 · simp at hi
 · obtain⟨pe,ce,q0,q1,q2⟩:=h3 i _ (List.getElem?_eq_getElem hi)
   exact⟨b,off,pe,ce,h1,h2,q0,q1,q2⟩
structure ScoOk (s:Sco):Prop where
 ty:s.ty.size≤maxLen
 u:UOk s.u
structure PoA (w:World)(p:Po)(pc:Option Addr)(cc:Nat):Prop where
 nm:p.nm.size≤maxLen
 who:ScoOk p.who
 act:ScoOk p.act
 what:ScoOk p.what
 cl:CdL w pc p.cs
 le:p.cs.length≤cc
 cm:cc≤maxLen
theorem PoA.up {w w':World}{p:Po}{pc:Option Addr}{cc:Nat}(h:PoA w p pc cc)(k:Below w.heap.size w w'):PoA w' p pc cc:=⟨h.nm,h.who,h.act,h.what,h.cl.up k,h.le,h.cm⟩
def sidesC (p:Po):Array Value:=
 #[.int .i64 p.who.op,.string p.who.ty,.string p.who.u.t,.string p.who.u.i,.string sPrin,.int .i64 p.act.op,.string p.act.ty,.string p.act.u.t,.string p.act.u.i,.string sAct,.int .i64 p.what.op,.string p.what.ty,.string p.what.u.t,.string p.what.u.i,.string sRes]
set_option linter.unusedSimpArgs false
set_option maxRecDepth 100000
theorem pisName_any (s:ByteArray)(w:World)(hs:s.size≤maxLen):
 Calls Tryz.prog 50 #[.string s] w fun e w'=>e= .returned (.bool (okN s))∧Below w.heap.size w w':=by
 have HC:=fun w=>check_any s w hs
 by_cases h:nfault s.data.toList=0
 · have HR:Hid (okN s=true):=by show _=_;unfold okN;rw[h];rfl
   simp only[eV_nil h]at HC
   clear h
   go_enter Tryz.func50,Tryz.ntmps50
   go_wp2_with fail
   refine(HC _).mono ?_
   rintro _ w1 ⟨rfl,rfl⟩
   go_wp2
   go_ret
   exact⟨by rw[HR.out];rfl,kqx⟩
 · have HR:Hid (okN s=false):=by show _=_;unfold okN;rw[beq_eq_false_iff_ne];exact h
   simp only[eV_not h]at HC
   generalize nfault s.data.toList=n at *
   clear h
   go_enter Tryz.func50,Tryz.ntmps50
   go_wp2_with fail
   refine(HC _).mono ?_
   rintro _ w1 ⟨rfl,rfl⟩
   go_wp2
   go_ret
   exact⟨by rw[HR.out];rfl,kqx⟩
theorem pisUid_any (u:Ui)(w:World)(hu:UOk u):
 Calls Tryz.prog 49 #[.agg #[.string u.t,.string u.i]] w fun e w'=>e= .returned (.bool (okU u))∧Below w.heap.size w w':=by
 obtain⟨V,hV⟩:∃V,V=w.alloc (.cells #[.string u.t,.string u.i] 25):=⟨_,rfl⟩
 have hbV:Below w.heap.size w V:=by rw[hV];exact kqx
 have HC:=write_any u.t u.i V hu.1 hu.2
 by_cases h:uf u=0
 · have HR:Hid (okU u=true):=by show _=_;unfold okU;rw[h];rfl
   have h2:ufault u.t.data.toList u.i.data.toList=0:=h
   rw[eV_nil h2]at HC
   clear h h2 hu
   go_enter Tryz.func49,Tryz.ntmps49
   go_wp2_with fail
   rw[←hV]
   refine HC.mono ?_
   rintro _ w1 ⟨q,rfl,hb1⟩
   clear hV
   go_wp2
   go_ret
   exact⟨by rw[HR.out];rfl,kqt hbV hb1⟩
 · have HR:Hid (okU u=false):=by show _=_;unfold okU;rw[beq_eq_false_iff_ne];exact h
   have h2:ufault u.t.data.toList u.i.data.toList≠0:=h
   rw[eV_not h2]at HC
   generalize ufault u.t.data.toList u.i.data.toList=n at *
   clear h h2 hu
   go_enter Tryz.func49,Tryz.ntmps49
   go_wp2_with fail
   rw[←hV]
   refine HC.mono ?_
   rintro _ w1 ⟨q,rfl,hb1⟩
   clear hV
   go_wp2
   go_ret
   exact⟨by rw[HR.out];rfl,kqt hbV hb1⟩
theorem sidesOf_any (p:Po)(pc:Option Addr)(cc:Nat)(w:World):
 Calls Tryz.prog 22 #[poV p pc cc] w fun e w'=>(∃b,e= .returned (.slice (some ⟨b,0,none⟩) 3 3)∧Blk w' b (sidesC p) 65)∧Below w.heap.size w w':=by
 unfold poV
 go_enter Tryz.func22,Tryz.ntmps22
 go_wp2
 go_ret
 refine⟨⟨_,rfl,?_⟩,?_⟩
 · exact Blk.new _ _ _ (by simp)
 · exact kqx
def scV (s:Sco):Value:=.agg #[.int .i64 s.op,.string s.ty,.string s.u.t,.string s.u.i]
def uiV (u:Ui):Value:=.agg #[.string u.t,.string u.i]
theorem cells4 {w:World}{T:Nat}{x0 x1 x2 x3:Value}{ty:TypeId}(h:Blk w T #[x0,x1,x2,x3] ty)(v0 v1 v2 v3:Value):
 Blk (((((w).setCell ⟨T,0,none⟩ (v0)).setCell ⟨T,1,none⟩ (v1)).setCell ⟨T,2,none⟩ (v2)).setCell ⟨T,3,none⟩ (v3)) T #[v0,v1,v2,v3] ty∧Keep (fun x=>x=T) w (((((w).setCell ⟨T,0,none⟩ (v0)).setCell ⟨T,1,none⟩ (v1)).setCell ⟨T,2,none⟩ (v2)).setCell ⟨T,3,none⟩ (v3)):=by
 have h0:=h.set (j:=0) (z:=v0) rfl
 have h1:=h0.1.set (j:=1) (z:=v1) rfl
 have h2:=h1.1.set (j:=2) (z:=v2) rfl
 have h3:=h2.1.set (j:=3) (z:=v3) rfl
 exact⟨h3.1,((h0.2.trans h1.2 (fun _ e=>.inl e)).trans h2.2 (fun _ e=>.inl e)).trans h3.2 (fun _ e=>.inl e)⟩
theorem hasSlot_any (s:Sco)(w:World):Calls Tryz.prog 66 #[scV s] w fun e w'=>e= .returned (.bool (hsl s))∧Below w.heap.size w w':=by
 obtain⟨op,ty,u⟩:=s
 unfold hsl scV
 simp only
 by_cases h5:op=5
 · subst h5
   go_enter Tryz.func66,Tryz.ntmps66
   go_wp2
   go_ret
   exact⟨rfl,kqx⟩
 · have b5:(op == 5)=false:=by simpa using h5
   by_cases h6:op=6
   · subst h6
     go_enter Tryz.func66,Tryz.ntmps66
     go_wp2
     go_ret
     exact⟨rfl,kqx⟩
   · have b6:(op == 6)=false:=by simpa using h6
     rw[decide_eq_false h5,decide_eq_false h6]
     clear h5 h6
     go_enter Tryz.func66,Tryz.ntmps66
     go_wp2
     go_ret
     exact⟨rfl,kqx⟩
structure AK0 (w:World)(a:List Nd)(p:Option Addr)(c:Nat):Prop where
 nl:NL w p a
 le:a.length≤c
 cm:c≤maxLen
theorem AK0.up {w w':World}{a:List Nd}{p:Option Addr}{c:Nat}(h:AK0 w a p c)(hb:Below w.heap.size w w'):AK0 w' a p c:=⟨h.nl.up hb,h.le,h.cm⟩
def KRet (w':World)(l:List Nd)(e:Ending):Prop:=∃q c',e= .returned (.slice q l.length c')∧AK0 w' l q c'
theorem one_newN {w W':World}{B:Nat}(x:Nd)(hx:x.wf)(hB:B=w.heap.size)(hb:Below (w.alloc (.cells #[.int .i64 x.op,.int .i64 x.n,.string x.s,.string x.t] 51)).heap.size (w.alloc (.cells #[.int .i64 x.op,.int .i64 x.n,.string x.s,.string x.t] 51)) W'):KRet W' [x] (.returned (.slice (some ⟨B,0,none⟩) 1 1)):=by
 have hk:=(Blk.new w (B:=B) #[.int .i64 x.op,.int .i64 x.n,.string x.s,.string x.t] 51 hB).up hb
 refine⟨_,_,rfl,⟨.inr ⟨B,0,rfl,hk.lt,fun i z hz=>?_⟩,Nat.le_refl _,by unfold maxLen;omega⟩⟩
 cases i with
 | succ i=>simp at hz
 | zero=>
   simp only[List.getElem?_cons_zero,Option.some.injEq]at hz
   subst hz
   exact⟨hk.cell 0,hk.cell 1,hk.cell 2,hk.cell 3,hx⟩
theorem lf_wf (o:Int)(h:o≤100):(lfN o).wf:=by
 simp[lfN,e0,Nd.wf,maxLen]
 exact Nat.zero_le _
theorem append_nodesG (w:World){ops:Array Oper}{rest:List Oper}{o:Oper}{a:Act}{Q:Exit→Act→World→Prop}(hgd:o.guard=none)(s x:Operand)
 (ho:o.op= .call { callee:=.builtin .append,args:= #[s,x],argTypes:= #[26,26] })
 (base:Nat) (v:Value) (L:List Nd) (hs:a.eval s=v) (hown:ON w base v L) (M:List Nd) (n:Nat) (hn:M.length=n) (b off c:Nat) (hN:NL w (some ⟨b,off,none⟩) M)
 (hx:a.eval x= .slice (some ⟨b,off,none⟩) n c) (hlen:L.length+M.length≤1099511627776) (hbase:base≤w.heap.size)
 (h:∀v' w',ON w' base v' (L++M)→w.grownBy w' v.ownBlock→(v'.ownBlock=v.ownBlock∨v'.ownBlock=some w.heap.size)→wpList Tryz.prog ops Q rest (a.put o.dst v') w'):wpList Tryz.prog ops Q (o::rest) a w:=by
 subst hn
 obtain⟨i0,hi,hz0,hz1,hz2⟩:=info_parts Tryz.infoNode
 refine wpList_append_own_at _ hgd s x 26 ho base 51 i0 _ 4 48 Tryz.underlying26 hi hz0 hz1 hz2 rfl (by decide) v L.length (ncells L) hs hown.1 ⟨b,off,none⟩ M.length c (ncells M) hx (ncells_length M) ?_ (ncells_one _) (by unfold maxLen;omega) (by omega) hbase ?_
 · intro j u hu
   have hadd:(⟨b,off,none⟩:Addr).add j=⟨b,off+j,none⟩:=by unfold Addr.add;split<;>simp_all
   rw[hadd];exact hN.cells j u hu
 · intro v' w' h1 h2 _ h4
   refine h v' w' ⟨?_,fun x hx=>?_⟩ h2 h4
   · rw[ncells_append,List.length_append];exact h1
   · rcases List.mem_append.1 hx with hx | hx
     · exact hown.2 x hx
     · exact hN.wfs x hx
theorem NL.keep {S:Nat→Prop}{w w':World}{b off:Nat}{L:List Nd}(h:NL w (some ⟨b,off,none⟩) L)(k:Keep S w w')(hS:¬S b):NL w' (some ⟨b,off,none⟩) L:=by
 rcases h with h | ⟨b',off',h1,h2,h3⟩
 · exact .inl h
 · cases h1
   refine .inr ⟨b,off,rfl,Nat.lt_of_lt_of_le h2 k.size,fun i x hx=>?_⟩
   have q:∀o,w'.cell? ⟨b,o,none⟩=w.cell? ⟨b,o,none⟩:=fun o=>k.cell (p:=⟨b,o,none⟩) h2 hS
   obtain⟨a1,a2,a3,a4,a5⟩:=h3 i x hx
   exact⟨(q _).trans a1,(q _).trans a2,(q _).trans a3,(q _).trans a4,a5⟩
theorem keep_grown {w w':World}{r:Option Nat}(h:w.grownBy w' r):Keep (fun a=>r=some a) w w':=⟨h.os,h.tape,h.output,h.size,fun a ha hn=>h.block a ha (fun e=>hn e.symm)⟩
theorem ON.emptyK (w:World)(base:Nat):ON w base (.slice none 0 0) []:=⟨World.ownsRow_nil _ _ _ _,fun x hx=>by cases hx⟩
theorem ON.cap {w:World}{base:Nat}{q:Option Addr}{n c:Nat}{L:List Nd}(h:ON w base (.slice q n c) L):L.length≤c∧c≤maxLen:=by
 rcases h.1.2 with⟨e,h0⟩ | ⟨g,cap,cur,e,_,_,h2,h3,_⟩
 · cases e;exact⟨by omega,Nat.zero_le _⟩
 · cases e;exact⟨h2,h3⟩
theorem ON.nl {w:World}{base:Nat}{q:Option Addr}{c:Nat}{L:List Nd}(h:ON w base (.slice q L.length c) L):NL w q L:=by
 obtain⟨q',c',e,h1,_⟩:=NL.of_row h.2 h.1
 cases e
 exact h1.1
def KRetF (w w':World)(L:List Nd)(e:Ending):Prop:=∃q c',e= .returned (.slice q L.length c')∧AK0 w' L q c'∧∀b o,q=some ⟨b,o,none⟩→w.heap.size≤b
theorem KRetF.ret {w w':World}{L:List Nd}{e:Ending}(h:KRetF w w' L e):KRet w' L e:=by
 obtain⟨q,c,h1,h2,_⟩:=h
 exact⟨q,c,h1,h2⟩
def catL:List (List Nd)→List Nd
 | []=>[]
 | l::r=>l++catL r
theorem catL_app:∀a b:List (List Nd),catL (a++b)=catL a++catL b
 | [],b=>rfl
 | l::r,b=>by simp[catL,catL_app r b]
theorem LL.here {w:World}{p:Option Addr}{a r:List (List Nd)}{l:List Nd}(h:LL w p (a++l::r)):∃b off q c,p=some ⟨b,off,none⟩∧b<w.heap.size∧w.cell? ⟨b,off+a.length,none⟩=some (.slice q l.length c)∧NL w q l∧l.length≤c∧c≤maxLen:=by
 rcases h with h | ⟨b,off,h1,h2,h3⟩
 · simp at h
 · obtain⟨q,c,h4⟩:=h3 a.length l (by simp)
   exact⟨b,off,q,c,h1,h2,h4⟩
theorem nO_wf {o:Int}:(nO o).wf:=⟨Nat.zero_le _,Nat.zero_le _,by show(0:Int)≤_;decide⟩
theorem nSy_wf {o:Int}{s:ByteArray}(h:s.size≤maxLen):(nSy o s).wf:=⟨h,Nat.zero_le _,by show(0:Int)≤_;decide⟩
theorem nEn_wf {u:Ui}(h:UOk u):(nEn u).wf:=⟨h.1,h.2,by show(0:Int)≤_;decide⟩
theorem nTr_wf:nTr.wf:=⟨Nat.zero_le _,Nat.zero_le _,by show(1:Int)≤_;decide⟩
theorem all_wf0:∀x∈([]:List Nd),x.wf:=fun x h=>by cases h
theorem all_wf {x:Nd}{l:List Nd}(h:x.wf)(hl:∀y∈l,y.wf):∀y∈x::l,y.wf:=fun y hy=>by
 rcases List.mem_cons.1 hy with rfl | hy
 · exact h
 · exact hl y hy
theorem lit_ret {w W:World}{B:Nat}(cs:Array Value)(L:List Nd)(hw:∀x∈L,x.wf)(hc:cs.toList=ncells L)(hl:L.length≤1000)(hB:B=W.heap.size)(h0:w.heap.size≤B){n:Nat}(hn:L.length=n):KRetF w (W.alloc (.cells cs 51)) L (.returned (.slice (some ⟨B,0,none⟩) n n)):=by
 subst hB hn
 refine⟨_,_,rfl,⟨NL.lit W L cs hw hc hl,Nat.le_refl _,by unfold maxLen;omega⟩,fun b o e=>?_⟩
 cases e
 exact h0
section
variable (op:Int) (ty ut ui v:ByteArray) (w:World) (ht:ty.size≤maxLen) (hu:UOk ⟨ut,ui⟩) (hv:v.size≤100)
include ht hu hv
theorem sexpr_0 (h0:op≠1∧op≠2∧op≠3∧op≠4∧op≠5∧op≠6):
 Calls Tryz.prog 23 #[sdV ⟨op,ty,⟨ut,ui⟩⟩ v] w fun e w'=>KRetF w w' (scE v ⟨op,ty,⟨ut,ui⟩⟩) e∧Below w.heap.size w w':=by
 have hL:scE v ⟨op,ty,⟨ut,ui⟩⟩=[nTr]:=by simp[scE,h0]
 obtain⟨n1,n2,n3,n4,n5,n6⟩:=h0
 have b1:(op == 1)=false:=by rw[beq_eq_false_iff_ne];exact n1
 have b2:(op == 2)=false:=by rw[beq_eq_false_iff_ne];exact n2
 have b3:(op == 3)=false:=by rw[beq_eq_false_iff_ne];exact n3
 have b4:(op == 4)=false:=by rw[beq_eq_false_iff_ne];exact n4
 have b5:(op == 5)=false:=by rw[beq_eq_false_iff_ne];exact n5
 have b6:(op == 6)=false:=by rw[beq_eq_false_iff_ne];exact n6
 clear n1 n2 n3 n4 n5 n6
 rw[hL]
 clear hL
 have hw:Hid (∀x∈[nTr],x.wf):=by
  have hv2:(nSy 8 v).wf:=nSy_wf (by unfold maxLen;omega)
  have hq2:(nSy 8 (qv v)).wf:=nSy_wf (by unfold maxLen qv;rw[ByteArray.size_append];show 1+_≤_;omega)
  have ht2:(nSy 24 ty).wf:=nSy_wf ht
  have hu2:(nEn ⟨ut,ui⟩).wf:=nEn_wf hu
  exact all_wf nTr_wf all_wf0
 have hvs:¬ 9223372036854775807<1+v.size:=by omega
 clear ht hu hv
 unfold sdV
 simp only
 go_enter Tryz.func23,Tryz.ntmps23
 go_wp2
 go_ret
 exact⟨lit_ret _ _ hw.out rfl (by simp) (by simp) (by omega) rfl,kqx⟩
theorem sexpr_1 (h0:op=1):
 Calls Tryz.prog 23 #[sdV ⟨op,ty,⟨ut,ui⟩⟩ v] w fun e w'=>KRetF w w' (scE v ⟨op,ty,⟨ut,ui⟩⟩) e∧Below w.heap.size w w':=by
 subst h0
 have hL:scE v ⟨1,ty,⟨ut,ui⟩⟩=[nO 14,nSy 8 v,nEn ⟨ut,ui⟩]:=by simp[scE]
 rw[hL]
 clear hL
 have hw:Hid (∀x∈[nO 14,nSy 8 v,nEn ⟨ut,ui⟩],x.wf):=by
  have hv2:(nSy 8 v).wf:=nSy_wf (by unfold maxLen;omega)
  have hq2:(nSy 8 (qv v)).wf:=nSy_wf (by unfold maxLen qv;rw[ByteArray.size_append];show 1+_≤_;omega)
  have ht2:(nSy 24 ty).wf:=nSy_wf ht
  have hu2:(nEn ⟨ut,ui⟩).wf:=nEn_wf hu
  exact all_wf nO_wf (all_wf hv2 (all_wf hu2 all_wf0))
 have hvs:¬ 9223372036854775807<1+v.size:=by omega
 clear ht hu hv
 unfold sdV
 simp only
 go_enter Tryz.func23,Tryz.ntmps23
 go_wp2
 go_ret
 exact⟨lit_ret _ _ hw.out rfl (by simp) (by simp) (by omega) rfl,kqx⟩
theorem sexpr_2 (h0:op=2):
 Calls Tryz.prog 23 #[sdV ⟨op,ty,⟨ut,ui⟩⟩ v] w fun e w'=>KRetF w w' (scE v ⟨op,ty,⟨ut,ui⟩⟩) e∧Below w.heap.size w w':=by
 subst h0
 have hL:scE v ⟨2,ty,⟨ut,ui⟩⟩=[nO 20,nSy 8 v,nEn ⟨ut,ui⟩]:=by simp[scE]
 rw[hL]
 clear hL
 have hw:Hid (∀x∈[nO 20,nSy 8 v,nEn ⟨ut,ui⟩],x.wf):=by
  have hv2:(nSy 8 v).wf:=nSy_wf (by unfold maxLen;omega)
  have hq2:(nSy 8 (qv v)).wf:=nSy_wf (by unfold maxLen qv;rw[ByteArray.size_append];show 1+_≤_;omega)
  have ht2:(nSy 24 ty).wf:=nSy_wf ht
  have hu2:(nEn ⟨ut,ui⟩).wf:=nEn_wf hu
  exact all_wf nO_wf (all_wf hv2 (all_wf hu2 all_wf0))
 have hvs:¬ 9223372036854775807<1+v.size:=by omega
 clear ht hu hv
 unfold sdV
 simp only
 go_enter Tryz.func23,Tryz.ntmps23
 go_wp2
 go_ret
 exact⟨lit_ret _ _ hw.out rfl (by simp) (by simp) (by omega) rfl,kqx⟩
theorem sexpr_3 (h0:op=3):
 Calls Tryz.prog 23 #[sdV ⟨op,ty,⟨ut,ui⟩⟩ v] w fun e w'=>KRetF w w' (scE v ⟨op,ty,⟨ut,ui⟩⟩) e∧Below w.heap.size w w':=by
 subst h0
 have hL:scE v ⟨3,ty,⟨ut,ui⟩⟩=[nSy 24 ty,nSy 8 v]:=by simp[scE]
 rw[hL]
 clear hL
 have hw:Hid (∀x∈[nSy 24 ty,nSy 8 v],x.wf):=by
  have hv2:(nSy 8 v).wf:=nSy_wf (by unfold maxLen;omega)
  have hq2:(nSy 8 (qv v)).wf:=nSy_wf (by unfold maxLen qv;rw[ByteArray.size_append];show 1+_≤_;omega)
  have ht2:(nSy 24 ty).wf:=nSy_wf ht
  have hu2:(nEn ⟨ut,ui⟩).wf:=nEn_wf hu
  exact all_wf ht2 (all_wf hv2 all_wf0)
 have hvs:¬ 9223372036854775807<1+v.size:=by omega
 clear ht hu hv
 unfold sdV
 simp only
 go_enter Tryz.func23,Tryz.ntmps23
 go_wp2
 go_ret
 exact⟨lit_ret _ _ hw.out rfl (by simp) (by simp) (by omega) rfl,kqx⟩
theorem sexpr_4 (h0:op=4):
 Calls Tryz.prog 23 #[sdV ⟨op,ty,⟨ut,ui⟩⟩ v] w fun e w'=>KRetF w w' (scE v ⟨op,ty,⟨ut,ui⟩⟩) e∧Below w.heap.size w w':=by
 subst h0
 have hL:scE v ⟨4,ty,⟨ut,ui⟩⟩=[nO 11,nSy 24 ty,nSy 8 v,nO 20,nSy 8 v,nEn ⟨ut,ui⟩]:=by simp[scE]
 rw[hL]
 clear hL
 have hw:Hid (∀x∈[nO 11,nSy 24 ty,nSy 8 v,nO 20,nSy 8 v,nEn ⟨ut,ui⟩],x.wf):=by
  have hv2:(nSy 8 v).wf:=nSy_wf (by unfold maxLen;omega)
  have hq2:(nSy 8 (qv v)).wf:=nSy_wf (by unfold maxLen qv;rw[ByteArray.size_append];show 1+_≤_;omega)
  have ht2:(nSy 24 ty).wf:=nSy_wf ht
  have hu2:(nEn ⟨ut,ui⟩).wf:=nEn_wf hu
  exact all_wf nO_wf (all_wf ht2 (all_wf hv2 (all_wf nO_wf (all_wf hv2 (all_wf hu2 all_wf0)))))
 have hvs:¬ 9223372036854775807<1+v.size:=by omega
 clear ht hu hv
 unfold sdV
 simp only
 go_enter Tryz.func23,Tryz.ntmps23
 go_wp2
 go_ret
 exact⟨lit_ret _ _ hw.out rfl (by simp) (by simp) (by omega) rfl,kqx⟩
theorem sexpr_5 (h0:op=5):
 Calls Tryz.prog 23 #[sdV ⟨op,ty,⟨ut,ui⟩⟩ v] w fun e w'=>KRetF w w' (scE v ⟨op,ty,⟨ut,ui⟩⟩) e∧Below w.heap.size w w':=by
 subst h0
 have hL:scE v ⟨5,ty,⟨ut,ui⟩⟩=[nO 14,nSy 8 v,nSy 8 (qv v)]:=by simp[scE]
 rw[hL]
 clear hL
 have hw:Hid (∀x∈[nO 14,nSy 8 v,nSy 8 (qv v)],x.wf):=by
  have hv2:(nSy 8 v).wf:=nSy_wf (by unfold maxLen;omega)
  have hq2:(nSy 8 (qv v)).wf:=nSy_wf (by unfold maxLen qv;rw[ByteArray.size_append];show 1+_≤_;omega)
  have ht2:(nSy 24 ty).wf:=nSy_wf ht
  have hu2:(nEn ⟨ut,ui⟩).wf:=nEn_wf hu
  exact all_wf nO_wf (all_wf hv2 (all_wf hq2 all_wf0))
 have hvs:¬ 9223372036854775807<1+v.size:=by omega
 clear ht hu hv
 unfold sdV
 simp only
 go_enter Tryz.func23,Tryz.ntmps23
 go_wp2
 go_ret
 exact⟨lit_ret _ _ hw.out rfl (by simp) (by simp) (by omega) rfl,kqx⟩
theorem sexpr_6 (h0:op=6):
 Calls Tryz.prog 23 #[sdV ⟨op,ty,⟨ut,ui⟩⟩ v] w fun e w'=>KRetF w w' (scE v ⟨op,ty,⟨ut,ui⟩⟩) e∧Below w.heap.size w w':=by
 subst h0
 have hL:scE v ⟨6,ty,⟨ut,ui⟩⟩=[nO 20,nSy 8 v,nSy 8 (qv v)]:=by simp[scE]
 rw[hL]
 clear hL
 have hw:Hid (∀x∈[nO 20,nSy 8 v,nSy 8 (qv v)],x.wf):=by
  have hv2:(nSy 8 v).wf:=nSy_wf (by unfold maxLen;omega)
  have hq2:(nSy 8 (qv v)).wf:=nSy_wf (by unfold maxLen qv;rw[ByteArray.size_append];show 1+_≤_;omega)
  have ht2:(nSy 24 ty).wf:=nSy_wf ht
  have hu2:(nEn ⟨ut,ui⟩).wf:=nEn_wf hu
  exact all_wf nO_wf (all_wf hv2 (all_wf hq2 all_wf0))
 have hvs:¬ 9223372036854775807<1+v.size:=by omega
 clear ht hu hv
 unfold sdV
 simp only
 go_enter Tryz.func23,Tryz.ntmps23
 go_wp2
 go_ret
 exact⟨lit_ret _ _ hw.out rfl (by simp) (by simp) (by omega) rfl,kqx⟩
end
theorem sideE_any (s:Sco)(v:ByteArray)(w:World)(hs:ScoOk s)(hv:v.size≤100):
 Calls Tryz.prog 23 #[sdV s v] w fun e w'=>KRetF w w' (scE v s) e∧Below w.heap.size w w':=by
 obtain⟨op,ty,⟨ut,ui⟩⟩:=s
 by_cases h1:op=1
 · exact sexpr_1 op ty ut ui v w hs.ty hs.u hv h1
 by_cases h2:op=2
 · exact sexpr_2 op ty ut ui v w hs.ty hs.u hv h2
 by_cases h3:op=3
 · exact sexpr_3 op ty ut ui v w hs.ty hs.u hv h3
 by_cases h4:op=4
 · exact sexpr_4 op ty ut ui v w hs.ty hs.u hv h4
 by_cases h5:op=5
 · exact sexpr_5 op ty ut ui v w hs.ty hs.u hv h5
 by_cases h6:op=6
 · exact sexpr_6 op ty ut ui v w hs.ty hs.u hv h6
 exact sexpr_0 op ty ut ui v w hs.ty hs.u hv ⟨h1,h2,h3,h4,h5,h6⟩
end Go.Proofs.YtipcngglmebiiaaGreatDoor
namespace Go.Proofs.YtipcngglmebiiaaGreatDoor
open Go.RowKit Go.Shelf
set_option linter.unusedSimpArgs false
set_option maxRecDepth 100000
theorem growC_any (n:Nat)(w:World)(hn:n≤1099511627776):
 Calls Tryz.prog 35 #[.slice none 0 0,.int .i64 n] w fun e w'=>(∃v,e= .returned v∧ON w' w.heap.size v [])∧Below w.heap.size w w':=by
 by_cases h0:n=0
 · subst h0
   refine(Any8.slices_Grow_room Tryz.growN none 0 0 0 w (Nat.le_refl _) (by decide) (by decide) (Nat.le_refl _)).mono ?_
   rintro e w' ⟨rfl,rfl⟩
   exact⟨⟨_,rfl,⟨World.ownsRow_nil _ _ _ _,fun x hx=>by cases hx⟩⟩,Below.refl _ _⟩
 · obtain⟨i0,hi,hz0,hz1,hz2⟩:=info_parts Tryz.infoNode
   refine(Any8.slices_Grow_grow Tryz.growN i0 (.agg #[.int .i64 0,.int .i64 0,.string ⟨#[]⟩,.string ⟨#[]⟩]) hi hz0 (by omega) none 0 0 n [] w (Nat.le_refl _) (by omega) (by rw[hz2];omega) (by omega) (by simp) (fun _=>rfl) (fun a h=>by cases h)).mono ?_
   rintro e w' ⟨rfl,rfl⟩
   refine⟨⟨_,rfl,⟨?_,fun x hx=>by cases hx⟩⟩,?_⟩
   · have hge:=grownCap_ge w (0+n) 0 (Tryz.growN_ren.t 25)
     rw[Nat.zero_add]at hge
     refine⟨rfl,.inr ⟨w.heap.size,_,_,rfl,Nat.le_refl _,heap_alloc_new _ _,Nat.zero_le _,?_,?_,?_⟩⟩
     · exact grownCap_le_maxLen w (0+n) 0 _ (by unfold maxLen;omega)
     · simp only[Array.size_append,List.size_toArray,size_zeroCells,Value.cells,List.length_nil]
       simp
       omega
     · simp[ncells]
   · exact((Below.refl _ w).drew).alloc (Nat.le_refl _) _
theorem concatN_any (ls:List (List Nd))(hne:∀l∈ls,l≠[])(p:Option Addr)(c:Nat)(w:World)(hv:LL w p ls)(hl:(catL ls).length≤100000)(hn:ls.length≤100000):
 Calls Tryz.prog 25 #[.slice p ls.length c] w fun e w'=>KRetF w w' (catL ls) e∧Below w.heap.size w w':=by
 have HL:Hid (LL w p ls):=hv
 have HNE:Hid (∀l∈ls,l≠[]):=hne
 have HSZ:Hid ((catL ls).length≤100000):=hl
 clear hv hne hl
 go_enter Tryz.func25,Tryz.ntmps25
 go_wp2_with fail
 go_loopw [3,5,11] (fun sv _ iv wr=>∃(a r:List (List Nd)) (i m:Nat),Hid (ls=a++r)∧Hid (a.length=i)∧i≤ls.length∧iv= .int .i64 i∧sv= .int .i64 (m:Int)∧Hid (m=(catL a).length)∧m≤100000∧Below w.heap.size w wr) (fun _ _ iv _=>ls.length-(intOf iv).toNat)
 case atStart=>exact⟨[],ls,0,0,rfl,rfl,Nat.zero_le _,rfl,rfl,rfl,by omega,Below.refl _ _⟩
 case round=>
  rename World=>wr
  obtain⟨a,r,i,m,HD,HI,hik,rfl,rfl,HM,hm9,hbr⟩:=hrel
  cases r with
  | nil=>
    have hla:a=ls:=by have:=HD.out;rw[List.append_nil]at this;exact this.symm
    have hil:i=ls.length:=by rw[←HI.out,hla]
    have i3:¬(i:Int)<(ls.length:Int):=by omega
    clear hla hil HM HD HI
    go_wp2_with fail
    refine(growC_any m wr (by omega)).mono ?_
    rintro _ w1 ⟨⟨v1,rfl,hO1⟩,hb1⟩
    obtain⟨q1,c1,rfl⟩:=hO1.any
    have HO1:Hid (ON w1 wr.heap.size (.slice q1 0 c1) []):=hO1
    have hb01:=kqt hbr hb1
    have HW:Hid (w.heap.size≤wr.heap.size):=hbr.size
    clear hO1
    rw[show([]:List Nd).length=0 from rfl]
    go_wp2_with fail
    go_loopw [6,8,27] (fun ov _ iv wr2=>∃(a r:List (List Nd)) (i:Nat) (qo:Option Addr) (mo co:Nat),Hid (ls=a++r)∧Hid (a.length=i)∧i≤ls.length∧iv= .int .i64 i∧ov= .slice qo mo co∧Hid (mo=(catL a).length)∧Hid (ON wr2 wr.heap.size (.slice qo mo co) (catL a))∧Below wr.heap.size wr wr2) (fun _ _ iv _=>ls.length-(intOf iv).toNat)
    case atStart=>exact⟨[],ls,0,_,_,_,rfl,rfl,Nat.zero_le _,rfl,rfl,rfl,HO1,hb1⟩
    case round=>
     rename World=>w2
     obtain⟨a,r,i,qo,mo,co,HD,HI,hik,rfl,rfl,HMO,HO,hb2⟩:=hrel
     have hbr2:=kqt hbr hb2
     cases r with
     | nil=>
       have hla:a=ls:=by have:=HD.out;rw[List.append_nil]at this;exact this.symm
       have hil:i=ls.length:=by rw[←HI.out,hla]
       have i3:¬(i:Int)<(ls.length:Int):=by omega
       have HR:Hid (KRetF w w2 (catL ls) (.returned (.slice qo mo co))):=by
        have h:=HO.out
        rw[HMO.out]at h
        refine⟨qo,co,by rw[HMO.out,hla],?_,fun b o e=>by subst e;exact Nat.le_trans HW.out (ownP_lt HO.out.1 rfl).2⟩
        rw[←hla]
        exact⟨h.nl,h.cap.1,h.cap.2⟩
       clear hla hil HMO HO HD HI
       go_wp2
       go_ret
       exact⟨HR.out,hbr2⟩
     | cons l r=>
       have hlt:i<ls.length:=by rw[←HI.out,HD.out];simp
       have i3:(i:Int)<(ls.length:Int):=by omega
       have hlr:=HL.out.up hbr2
       rw[HD.out]at hlr
       obtain⟨b1,o1,q1',c1',hp1,hb1',x0,hn1,hle1,hcm1⟩:=hlr.here
       rw[HI.out]at x0
       subst hp1
       have hlne:l≠[]:=HNE.out l (by rw[HD.out];simp)
       obtain⟨b2,o2,hq1⟩:∃b o,q1'=some ⟨b,o,none⟩:=by
        rcases hn1 with h | ⟨b,o,h,_⟩
        · exact absurd h hlne
        · exact⟨b,o,h⟩
       subst hq1
       have hsz:(catL a).length+l.length≤100000:=by
        have:=HSZ.out
        rw[HD.out,catL_app]at this
        simp only[catL,List.length_append]at this
        omega
       have HD2:Hid (ls=(a++[l])++r):=by show _=_;rw[HD.out];simp
       have HI2:Hid ((a++[l]).length=i+1):=by show _=_;rw[List.length_append,HI.out];rfl
       have HE:Hid (catL a++l=catL (a++[l])):=by show _=_;rw[catL_app];simp[catL]
       have HN1:Hid (NL w2 (some ⟨b2,o2,none⟩) l):=hn1
       have hgb:∀g,(Value.slice qo mo co).ownBlock=some g→wr.heap.size≤g:=fun g hg=>(ownP_lt HO.out.1 hg).2
       clear hlr hn1 hlne HD HI
       go_wp2_with (first | (at_builtin;refine Hid.out ?_))
       show wpList _ _ _ _ _ _
       refine append_nodesG w2 rfl (.tmp 31) (.tmp 32) rfl wr.heap.size (.slice qo mo co) (catL a) rfl HO.out l l.length rfl b2 o2 c1' HN1.out rfl (by omega) hb2.size ?_
       intro v5 w5 hO5 hg5 ha5
       rw[HE.out]at hO5
       have hb5:Below wr.heap.size wr w5:=hb2.trans (grown_belowG hg5 hgb hb2.size)
       obtain⟨q5,c5,rfl⟩:=hO5.any
       obtain⟨M5,hM5⟩:∃M,M=(catL (a++[l])).length:=⟨_,rfl⟩
       have HM5:Hid (M5=(catL (a++[l])).length):=hM5
       have HO5:Hid (ON w5 wr.heap.size (.slice q5 M5 c5) (catL (a++[l]))):=by rw[hM5];exact hO5
       rw[←hM5]
       clear hO5 hM5 HO HMO
       go_wp2_with fail
       go_roundw
       case rel=>exact⟨a++[l],r,i+1,q5,M5,c5,HD2,HI2,by omega,by go_num,rfl,HM5,HO5,hb5⟩
       case measure=>simp[intOf];omega
  | cons l r=>
    have hlt:i<ls.length:=by rw[←HI.out,HD.out];simp
    have i3:(i:Int)<(ls.length:Int):=by omega
    have hlr:=HL.out.up hbr
    rw[HD.out]at hlr
    obtain⟨b1,o1,q1,c1,hp1,hb1,x0,hn1,hle1,hcm1⟩:=hlr.here
    rw[HI.out]at x0
    subst hp1
    have hsz:(catL a).length+l.length≤100000:=by
     have:=HSZ.out
     rw[HD.out,catL_app]at this
     simp only[catL,List.length_append]at this
     omega
    have HD2:Hid (ls=(a++[l])++r):=by show _=_;rw[HD.out];simp
    have HI2:Hid ((a++[l]).length=i+1):=by show _=_;rw[List.length_append,HI.out];rfl
    have HM2:Hid (m+l.length=(catL (a++[l])).length):=by show _=_;rw[catL_app,HM.out];simp[catL]
    have hml:m+l.length≤100000:=by have:=HM.out;omega
    have i4:¬((m:Int)+(l.length:Int))<0:=by omega
    generalize l.length=L at *
    clear hlr hn1 HD HI HM hsz
    go_wp2_with fail
    go_roundw
    case rel=>exact⟨a++[l],r,i+1,m+L,HD2,HI2,by omega,by go_num,by go_num,HM2,hml,hbr⟩
    case measure=>simp[intOf];omega
end Go.Proofs.YtipcngglmebiiaaGreatDoor
namespace Go.Proofs.YtipcngglmebiiaaGreatDoor
open Go.RowKit
set_option maxRecDepth 100000
def TRow (w:World)(base:Nat)(v:Value)(vs:List (List Nd)):Prop:=∃xs:List Value,w.ownsRow base 26 1 v vs.length xs∧∀(i:Nat) u L,xs[i]? =some u→vs[i]? =some L→∃q c,u= .slice q L.length c∧AK0 w L q c∧∀b o,q=some ⟨b,o,none⟩→b<w.heap.size∧v.ownBlock≠some b
theorem TRow.nil (w:World)(base:Nat):TRow w base (.slice none 0 0) []:=⟨[],World.ownsRow_nil _ _ _ _,fun i u L h=>by simp at h⟩
theorem TRow.up {w w':World}{base:Nat}{v:Value}{vs:List (List Nd)}(h:TRow w base v vs)(k:Below w.heap.size w w'):TRow w' base v vs:=by
 obtain⟨xs,h1,h2⟩:=h
 refine⟨xs,ownP_agree h1 (fun g _ hl=>k.block g hl),fun i u L hu hL=>?_⟩
 obtain⟨q,c,h3,h4,h5⟩:=h2 i u L hu hL
 exact⟨q,c,h3,h4.up k,fun b o e=>⟨Nat.lt_of_lt_of_le (h5 b o e).1 k.size,(h5 b o e).2⟩⟩
theorem TRow.slice {w:World}{base:Nat}{v:Value}{vs:List (List Nd)}(h:TRow w base v vs):∃q c,v= .slice q vs.length c∧LL w q vs:=by
 obtain⟨xs,h1,h2⟩:=h
 obtain⟨q,c,rfl⟩:=ownP_slice h1
 refine⟨q,c,rfl,?_⟩
 by_cases h0:vs=[]
 · exact .inl h0
 · have hl:xs.length=vs.length:=by have:=h1.1;omega
   have hpos:0<xs.length:=by rw[hl];exact List.length_pos_iff.2 h0
   obtain⟨g,cap,e,hg,_,_⟩:=ownP_cell h1 (j:=0) (u:=xs[0]) (List.getElem?_eq_getElem hpos)
   cases e
   refine .inr ⟨g,0,rfl,hg,fun i L hL=>?_⟩
   have hi:i<xs.length:=by rw[hl];exact(List.getElem?_eq_some_iff.1 hL).1
   obtain⟨q',c',h3,h4,_⟩:=h2 i xs[i] L (List.getElem?_eq_getElem hi) hL
   obtain⟨g',cap',e',_,hc,_⟩:=ownP_cell h1 (j:=i) (u:=xs[i]) (List.getElem?_eq_getElem hi)
   cases e'
   exact⟨q',c',by rw[Nat.zero_add,hc,h3],h4.nl,h4.le,h4.cm⟩
theorem append_rowT (w:World){ops:Array Oper}{rest:List Oper}{o:Oper}{a:Act}{Q:Exit→Act→World→Prop}(hgd:o.guard=none)(s x:Operand)
 (ho:o.op= .call { callee:=.builtin .append,args:= #[s,x],argTypes:= #[57,57] })
 (base:Nat) (v:Value) (vs:List (List Nd)) (hs:a.eval s=v) (hown:TRow w base v vs) (L:List Nd) (q:Option Addr) (c:Nat) (hA:AK0 w L q c) (hap:∀b o,q=some ⟨b,o,none⟩→b<w.heap.size∧v.ownBlock≠some b)
 (hx:a.eval x= .slice (some ⟨w.heap.size,0,none⟩) 1 1) (hlen:vs.length+1≤1000000) (hbase:base≤w.heap.size) {n:Nat} (hn:L.length=n)
 (h:∀v' w',TRow w' base v' (vs++[L])→Keep (fun b=>v.ownBlock=some b) w w'→wpList Tryz.prog ops Q rest (a.put o.dst v') w'):
 wpList Tryz.prog ops Q (o::rest) a (w.alloc (.cells #[.slice q n c] 26)):=by
 subst hn
 obtain⟨i0,hi,hz0,hz1,hz2⟩:=info_parts Tryz.infoList
 obtain⟨xs,h1,h2⟩:=hown
 have hb:Below w.heap.size w (w.alloc (.cells #[.slice q L.length c] 26)):=(Below.refl _ _).alloc (Nat.le_refl _) _
 have hown2:=ownP_agree (w':=w.alloc (.cells #[.slice q L.length c] 26)) h1 (fun g _ hg=>hb.block g hg)
 refine wpList_append_own_at _ hgd s x 57 ho base 26 i0 _ 1 24 Tryz.underlying57 hi hz0 hz1 hz2 rfl (by decide) v vs.length xs hs hown2 ⟨w.heap.size,0,none⟩ 1 1 [.slice q L.length c] hx rfl ?_ ?_ (by unfold maxLen;omega) (by omega) (Nat.le_trans hbase hb.size) ?_
 · intro j t hj
   match j,hj with
   | 0,hj=>simp at hj;subst hj;simp[Addr.add]
   | (j+1),hj=>simp at hj
 · intro t ht
   simp only[List.mem_singleton]at ht
   subst ht
   rfl
 · intro v' w' g1 g2 _ g4
   have hs2:(w.alloc (.cells #[.slice q L.length c] 26)).heap.size=w.heap.size+1:=by simp
   have hK:Keep (fun b=>v.ownBlock=some b) w w':=⟨g2.os.trans hb.os,g2.tape.trans hb.tape,g2.output.trans hb.output,Nat.le_trans hb.size g2.size,fun k hk hne=>(g2.block k (by omega) (fun e=>hne e.symm)).trans (hb.block k hk)⟩
   have hnew:∀b,b<w.heap.size→v.ownBlock≠some b→v'.ownBlock≠some b:=fun b hb1 hne e=>by
    rcases g4 with g4 | g4
    · rw[g4]at e;exact hne e
    · rw[g4]at e;injection e with e;omega
   have hxl:xs.length=vs.length:=by have:=h1.1;omega
   have hak:∀ {M:List Nd} {q':Option Addr} {c':Nat},AK0 w M q' c'→(∀b o,q'=some ⟨b,o,none⟩→b<w.heap.size∧v.ownBlock≠some b)→AK0 w' M q' c':=fun {M q' c'} hM hq=>by
    refine⟨?_,hM.le,hM.cm⟩
    rcases hM.nl with e | ⟨b,o,e,_⟩
    · exact .inl e
    · subst e
      exact NL.keep hM.nl hK (hq b o rfl).2
   refine h v' w' ⟨xs++[.slice q L.length c],by rw[List.length_append];exact g1,fun i u M hu hM=>?_⟩ hK
   by_cases hi2:i<xs.length
   · rw[List.getElem?_append_left hi2]at hu
     rw[List.getElem?_append_left (by omega)]at hM
     obtain⟨q',c',e1,e2,e3⟩:=h2 i u M hu hM
     exact⟨q',c',e1,hak e2 e3,fun b o e=>⟨Nat.lt_of_lt_of_le (e3 b o e).1 hK.size,hnew b (e3 b o e).1 (e3 b o e).2⟩⟩
   · rw[List.getElem?_append_right (by omega)]at hu
     rw[List.getElem?_append_right (by omega),←hxl]at hM
     have h0:i-xs.length=0:=by have:=(List.getElem?_eq_some_iff.1 hu).1;simp at this;omega
     rw[h0]at hu hM
     simp at hu hM
     subst hu hM
     exact⟨q,c,rfl,hak hA hap,fun b o e=>⟨Nat.lt_of_lt_of_le (hap b o e).1 hK.size,hnew b (hap b o e).1 (hap b o e).2⟩⟩
end Go.Proofs.YtipcngglmebiiaaGreatDoor
