import Derived.Test.YtjkepjbfgeldnaaGreatDoorB16
import Derived.Maps.AppendAt
import Derived.Laws.AppendOwnNone
import Derived.Test.YtjkepjbfgeldnaaGreatDoorB18
import Derived.Test.YtjkepjbfgeldnaaGreatDoorB11
import Derived.Test.YtjkepjbfgeldnaaGreatDoorB6
import Derived.StillTailTactics
import Derived.KernelRfl
import Derived.Test.YtjkepjbfgeldnaaGreatDoorB15
import Derived.Test.YtjkepjbfgeldnaaGreatDoorB4
set_option linter.unusedVariables false
set_option maxHeartbeats 12000000
namespace Go.Proofs.YtjkepjbfgeldnaaGreatDoor
open Go.RowKit
structure Blk (w:World)(B:Nat)(cs:Array Value)(T:TypeId):Prop where
 blk:w.heap[B]? =some (.cells cs T)
theorem Blk.lt {w:World}{B:Nat}{cs:Array Value}{T:TypeId}(h:Blk w B cs T):B<w.heap.size:=(Array.getElem?_eq_some_iff.1 h.blk).1
theorem Blk.low {N:Nat}{w w':World}{B:Nat}{cs:Array Value}{T:TypeId}(h:Blk w B cs T)(k:Below N w w')(hB:B<N):Blk w' B cs T:=⟨(k.block B hB).trans h.blk⟩
theorem Blk.up {w w':World}{B:Nat}{cs:Array Value}{T:TypeId}(h:Blk w B cs T)(k:Below w.heap.size w w'):Blk w' B cs T:=h.low k h.lt
theorem Blk.grown {w w':World}{B:Nat}{cs:Array Value}{T:TypeId}{r:Option Nat}(h:Blk w B cs T)(k:w.grownBy w' r)(hr:r≠some B):Blk w' B cs T:=⟨(k.block B h.lt (fun e=>hr e.symm)).trans h.blk⟩
theorem Blk.keep {S:Nat→Prop}{w w':World}{B:Nat}{cs:Array Value}{T:TypeId}(h:Blk w B cs T)(k:Keep S w w')(hr:¬S B):Blk w' B cs T:=⟨(k.block B h.lt hr).trans h.blk⟩
theorem Blk.cell {w:World}{B:Nat}{cs:Array Value}{T:TypeId}(h:Blk w B cs T)(j:Nat):w.cell? ⟨B,j,none⟩=cs[j]? :=by simp[World.cell?, h.blk]
theorem Blk.free {w:World}{B:Nat}{cs:Array Value}{T:TypeId}(h:Blk w B cs T)(j:Nat):w.frozen? ⟨B,j,none⟩=false:=by simp[World.frozen?, h.blk]
theorem Blk.new (w:World){B:Nat}(cs:Array Value)(T:TypeId)(hB:B=w.heap.size):Blk (w.alloc (.cells cs T)) B cs T:=by subst hB;exact⟨(MapKept.heap_alloc w _).1⟩
theorem Blk.set {w w':World}{B j:Nat}{cs:Array Value}{T:TypeId}{z:Value}(h:Blk w B cs T)(hw:w'=w.setCell ⟨B,j,none⟩ z):Blk w' B (cs.setIfInBounds j z) T∧Keep (fun a=>a=B) w w':=by
 subst hw
 exact⟨⟨heap_setCell_same w B j _ _ z h.blk⟩,keep_set w B j z⟩
theorem grown_belowG {N:Nat}{w w':World}{r:Option Nat}(h:w.grownBy w' r)(hr:∀g,r=some g→N≤g)(hN:N≤w.heap.size):Below N w w':=⟨h.os,h.tape,h.output,h.size,fun a ha=>h.block a (by omega) (fun e=>by have:=hr a e.symm;omega)⟩
theorem wp_append_at {P:Program}(w:World){o:Oper}{a:Act}{K:Act→World→Prop}{Q:Exit→Act→World→Prop}(s x:Operand)(t:TypeId)
 (ho:o.op= .call { callee:=.builtin .append,args:= #[s,x],argTypes:= #[t,t] })
 (base:Nat) (e:TypeId) (i:TypeInfo) (z:Value) (size bytes:Nat) (ht:P.underlying t=some (.slice e)) (hi:P.info? e=some i) (hz:i.zero=some z)
 (hsize:i.size=size) (hby:i.bytes=bytes) (hzs:z.cells.size=size) (hsz:0<size)
 (v:Value) (n:Nat) (xs:List Value) (hs:a.eval s=v) (hown:w.ownsRow base e size v n xs)
 (ad:Addr) (m c:Nat) (news:List Value) (hx:a.eval x= .slice (some ad) m c) (hl:news.length=m*size) (hnews:∀j u,news[j]? =some u→w.cell? (ad.add j)=some u) (h1:∀u∈news,u.oneCell'=true)
 (h63:n+m≤maxLen) (hbytes:(n+m)*bytes≤140737488355328) (hbase:base≤w.heap.size)
 (h:∀v' w',w'.ownsRow base e size v' (n+m) (xs++news)→w.grownBy w' v.ownBlock→(v'.ownBlock=v.ownBlock∨v'.ownBlock=some w.heap.size)→K (a.put o.dst v') w'):o.wp P a w K Q:=by
 obtain⟨v',w',hr,h2,h3,h4,h5⟩:=run_append_own_at (P:=P) w base t o.type e i z size bytes ht hi hz hsize hby hzs hsz v n xs hown ad m c news hl hnews h1 h63 hbytes hbase
 unfold Oper.wp execOp
 simp only[ho,resolve,invoke,builtin,Sem.run_bind,Sem.run_pure,Result.andThen_ok,List.map_toArray,List.map_cons,List.map_nil,hs,hx,hr]
 exact h v' w' h2 h3 h5
theorem wp_append_none {P:Program}(w:World){o:Oper}{a:Act}{K:Act→World→Prop}{Q:Exit→Act→World→Prop}(s x:Operand)(t:TypeId)
 (ho:o.op= .call { callee:=.builtin .append,args:= #[s,x],argTypes:= #[t,t] })
 (base:Nat) (e:TypeId) (i:TypeInfo) (size:Nat) (ht:P.underlying t=some (.slice e)) (hi:P.info? e=some i)
 (v:Value) (n:Nat) (xs:List Value) (hs:a.eval s=v) (hown:w.ownsRow base e size v n xs) (hx:a.eval x= .slice none 0 0)
 (h:K (a.put o.dst v) w):o.wp P a w K Q:=by
 have hrun:=run_append_owned_none (P:=P) (w:=w) base t o.type e i size ht hi v n xs hown
 unfold Oper.wp
 simp[execOp,ho,resolve,invoke,builtin,hs,hx,hrun,Result.andThen]
 exact h
def scoC (s:Sco):List Value:=[.int .i64 s.op,.string s.ty,.string s.u.t,.string s.u.i]
def sdV (s:Sco)(v:ByteArray):Value:=.agg #[.int .i64 s.op,.string s.ty,.string s.u.t,.string s.u.i,.string v]
def cndV (c:Cnd)(pe:Option Addr)(ce:Nat):Value:=.agg #[.bool c.un,.slice pe c.ex.length ce]
def poV (p:Po)(pc:Option Addr)(cc:Nat):Value:=
 .agg #[.string p.nm,.bool p.fb,.int .i64 p.who.op,.string p.who.ty,.string p.who.u.t,.string p.who.u.i,.int .i64 p.act.op,.string p.act.ty,.string p.act.u.t,.string p.act.u.i,.int .i64 p.what.op,.string p.what.ty,.string p.what.u.t,.string p.what.u.i,.slice pc p.cs.length cc]
def CdL (w:World)(p:Option Addr)(cs:List Cnd):Prop:=
 cs=[]∨∃b off,p=some ⟨b,off,none⟩∧b<w.heap.size∧∀i c,cs[i]? =some c→∃pe ce,AK w c.ex pe ce∧
  w.cell? ⟨b,off+i*2,none⟩=some (.bool c.un)∧w.cell? ⟨b,off+i*2+1,none⟩=some (.slice pe c.ex.length ce)
theorem CdL.up {w w':World}{p:Option Addr}{cs:List Cnd}(h:CdL w p cs)(k:Below w.heap.size w w'):CdL w' p cs:=by
 rcases h with h | ⟨b,off,h1,h2,h3⟩
 · exact .inl h
 · refine .inr ⟨b,off,h1,Nat.lt_of_lt_of_le h2 k.size,fun i c hc=>?_⟩
   obtain⟨pe,ce,q0,q1⟩:=h3 i c hc
   have q:∀o,w'.cell? ⟨b,o,none⟩=w.cell? ⟨b,o,none⟩:=fun o=>k.cell (p:=⟨b,o,none⟩) h2
   refine⟨pe,ce,q0.up k,?_⟩
   simp only[q]
   exact q1
theorem CdL.at {w:World}{p:Option Addr}{cs:List Cnd}(h:CdL w p cs){i:Nat}(hi:i<cs.length):∃b off pe ce,p=some ⟨b,off,none⟩∧b<w.heap.size∧AK w cs[i].ex pe ce∧
 w.cell? ⟨b,off+i*2,none⟩=some (.bool cs[i].un)∧w.cell? ⟨b,off+i*2+1,none⟩=some (.slice pe cs[i].ex.length ce):=by
 rcases h with rfl | ⟨b,off,h1,h2,h3⟩
 · simp at hi
 · obtain⟨pe,ce,q0,q1,q2⟩:=h3 i _ (List.getElem?_eq_getElem hi)
   exact⟨b,off,pe,ce,h1,h2,q0,q1,q2⟩
structure ScoOk (s:Sco):Prop where
 ty:s.ty.size≤maxLen
 u:UOk s.u
structure PoA (w:World)(p:Po)(pc:Option Addr)(cc:Nat):Prop where
 nm:p.nm.size≤maxLen
 who:ScoOk p.who
 act:ScoOk p.act
 what:ScoOk p.what
 cl:CdL w pc p.cs
 le:p.cs.length≤cc
 cm:cc≤maxLen
theorem PoA.up {w w':World}{p:Po}{pc:Option Addr}{cc:Nat}(h:PoA w p pc cc)(k:Below w.heap.size w w'):PoA w' p pc cc:=⟨h.nm,h.who,h.act,h.what,h.cl.up k,h.le,h.cm⟩
def sidesC (p:Po):Array Value:=
 #[.int .i64 p.who.op,.string p.who.ty,.string p.who.u.t,.string p.who.u.i,.string sPrin,.int .i64 p.act.op,.string p.act.ty,.string p.act.u.t,.string p.act.u.i,.string sAct,.int .i64 p.what.op,.string p.what.ty,.string p.what.u.t,.string p.what.u.i,.string sRes]
set_option linter.unusedSimpArgs false
set_option maxRecDepth 100000
theorem kqS {a b:World}(h:Below a.heap.size a b){p:Addr}{v:Value}(hp:a.heap.size≤p.block):Below a.heap.size a (b.setCell p v):=h.trans ⟨rfl,rfl,rfl,by simp,fun k hk=>Below.heap_setCell b p v k (by omega)⟩
theorem kqX {a b:World}(h:Below a.heap.size a b:=by repeat (first | exact Below.refl _ _ | apply kqA | apply kqD | refine kqS ?_ (by simp only[];omega) | refine kqS ?_ (by simp;omega) | refine kqS ?_ (by simp))):Below a.heap.size a b:=h
def tkV (t:Tk):Value:=.agg #[.int .i64 t.kind,.string t.s,.int .i64 t.at_]
structure RDs (w:World)(R:Nat)(p:Option Addr)(c:Nat)(ts:List Tk)(k:Nat):Prop where
 blk:w.heap[R]? =some (.cells #[.slice p ts.length c,.int .i64 (k:Int)] 53 (0,0))
 tk:TKL w p ts
 lo:ts≠[]→∀a,p=some a→a.block<R
 le:k≤ts.length
 len:ts.length≤100000
section
variable {w w':World} {R:Nat} {p:Option Addr} {c:Nat} {ts:List Tk} {k:Nat}
theorem RDs.lt (h:RDs w R p c ts k):R<w.heap.size:=(Array.getElem?_eq_some_iff.1 h.blk).1
theorem RDs.c0 (h:RDs w R p c ts k):w.cell? ⟨R,0,none⟩=some (.slice p ts.length c):=by simp[World.cell?, h.blk]
theorem RDs.c1 (h:RDs w R p c ts k):w.cell? ⟨R,1,none⟩=some (.int .i64 (k:Int)):=by simp[World.cell?, h.blk]
theorem RDs.fz (h:RDs w R p c ts k)(i:Nat):w.frozen? ⟨R,i,none⟩=false:=by simp[World.frozen?, h.blk]
theorem RDs.up (h:RDs w R p c ts k)(hb:Below w.heap.size w w'):RDs w' R p c ts k:=⟨(hb.block R h.lt).trans h.blk,h.tk.up hb,h.lo,h.le,h.len⟩
theorem TKL.low {B:Nat}{q:Option Addr}{M:List Tk}(h:TKL w q M)(hn:∀a,q=some a→a.block<B)(k:Below B w w'):TKL w' q M:=by
 rcases h with h | ⟨b,off,h1,h2,h3⟩
 · exact .inl h
 · refine .inr ⟨b,off,h1,Nat.lt_of_lt_of_le h2 k.size,fun i x hx=>?_⟩
   have q:∀o,w'.cell? ⟨b,o,none⟩=w.cell? ⟨b,o,none⟩:=fun o=>k.cell (p:=⟨b,o,none⟩) (hn ⟨b,off,none⟩ h1)
   simp only[q]
   exact h3 i x hx
theorem RDs.tkLow (h:RDs w R p c ts k)(hb:Below R w w'):TKL w' p ts:=by
 by_cases e:ts=[]
 · exact .inl e
 · exact h.tk.low (h.lo e) hb
theorem RDs.setAt (h:RDs w R p c ts k){k':Nat}(hk:k'≤ts.length):RDs (w.setCell ⟨R,1,none⟩ (.int .i64 (k':Int))) R p c ts k':=
 ⟨heap_setCell_same w R 1 _ _ _ h.blk,h.tkLow ⟨rfl,rfl,rfl,by simp,fun k hk=>Below.heap_setCell w ⟨R,1,none⟩ _ k (by show k≠R;omega)⟩,h.lo,hk,h.len⟩
end
def Rs (R:Nat)(l:List Tk)(a b:World):Prop:=(∃p c ts k,RDs b R p c ts k∧ts.drop k=l)∧Keep (fun x=>x=R) a b
theorem Rs.up {R:Nat}{l:List Tk}{a b c:World}(h:Rs R l a b)(k:Below b.heap.size b c):Rs R l a c:=by
 obtain⟨⟨p,cc,ts,n,h1,h2⟩,h3⟩:=h
 exact⟨⟨p,cc,ts,n,h1.up k,h2⟩,h3.trans (Keep.of_below k) (fun _ e=>.inl e)⟩
theorem Rs.refl {R:Nat}{l:List Tk}{a b:World}(h:Rs R l a b):Rs R l b b:=⟨h.1,Keep.refl _ _⟩
theorem Rs.then {R:Nat}{l m:List Tk}{a b c:World}(h:Rs R l a b)(k:Rs R m b c):Rs R m a c:=⟨k.1,h.2.trans k.2 (fun _ e=>.inl e)⟩
theorem Rs.small {R:Nat}{l:List Tk}{a b:World}(h:Rs R l a b):l.length≤100000:=by
 obtain⟨⟨p,cc,ts,n,h1,rfl⟩,_⟩:=h
 have:=h1.len
 simp;omega
theorem drop_none {ts:List Tk}{k:Nat}(h:¬k<ts.length):ts.drop k=[]:=List.drop_eq_nil_of_le (by omega)
theorem drop_some {ts:List Tk}{k:Nat}(h:k<ts.length):fsT (ts.drop k)=ts[k]∧(ts.drop k).tail=ts.drop (k+1):=by
 rw[List.drop_eq_getElem_cons h]
 exact⟨rfl,rfl⟩
section
variable {R:Nat} {l:List Tk} {a b:World}
theorem Rs.ahead (h:Rs R l a b):
 Calls Tryz.prog 60 #[.pointer (some ⟨R,0,none⟩)] b fun e w'=>e= .returned (tkV (fsT l))∧Rs R l a w':=by
 have HR:Hid (∀w',Below b.heap.size b w'→Rs R l a w'):=fun w' hb=>h.up hb
 obtain⟨⟨p,c,ts,k,h1,hl⟩,_⟩:=h
 have c0:=h1.c0
 have c1:=h1.c1
 have hlt:=h1.lt
 have hlen:=h1.len
 have hle:=h1.le
 have hB2:¬R=b.heap.size:=by omega
 have hB3:¬R=b.heap.size+1:=by omega
 by_cases hk:k<ts.length
 · obtain⟨g,off,hp,hg,e0,e1,e2⟩:=h1.tk.at hk
   have HT:Hid (fsT l=ts[k]):=by show _=_;rw[←hl];exact(drop_some hk).1
   generalize ts[k]=t at *
   subst hp
   have i1:(k:Int)<(ts.length:Int):=by omega
   have hg2:¬g=b.heap.size:=by omega
   clear h1 hl
   go_enter Tryz.func60,Tryz.ntmps60
   go_wp2
   go_region
   go_wp2
   go_region
   go_wp2
   refine bodyPost_ret (v:=tkV t) (by simp[results,Tryz.results60,go_sem,tkV]) rfl ⟨by rw[HT.out],HR.out _ ?_⟩
   exact kqX
 · have HT:Hid (fsT l=bT):=by show _=_;rw[←hl,drop_none hk];rfl
   have i1:¬(k:Int)<(ts.length:Int):=by omega
   clear h1 hl
   go_enter Tryz.func60,Tryz.ntmps60
   go_wp2
   go_region
   go_wp2
   refine bodyPost_ret (v:=tkV bT) (by simp[results,Tryz.results60,go_sem,tkV,bT]) rfl ⟨by rw[HT.out],HR.out _ ?_⟩
   exact kqX
end
theorem txt_ne {a b:ByteArray}(h:a≠b):(a.toList == b.toList)=false:=by rw[beq_eq_false_iff_ne];exact fun e=>h (bytes_inj (by simpa only[ByteArray.toList_eq]using e))
theorem ptok_kind (a b d:Value)(w:World):(Instr.field 78 (.agg #[a,b,d]) 0).run Tryz.prog w= .ok a w:=by kernel_rfl
theorem ptok_text (a b d:Value)(w:World):(Instr.field 78 (.agg #[a,b,d]) 1).run Tryz.prog w= .ok b w:=by kernel_rfl
theorem Rs.lt {R:Nat}{l:List Tk}{a b:World}(h:Rs R l a b):R<b.heap.size:=by
 obtain⟨⟨p,c,ts,k,h1,_⟩,_⟩:=h
 exact h1.lt
theorem Rs.side {R T:Nat}{l:List Tk}{a b c:World}(h:Rs R l a b)(hR:R<a.heap.size)(hT:a.heap.size≤T)(k:Keep (fun x=>x=T) b c):Rs R l a c:=by
 obtain⟨⟨p,cc,ts,n,d,hl⟩,hk⟩:=h
 have hb:Below R b c:=k.below (Nat.le_of_lt d.lt) (fun x e=>by subst e;omega)
 refine⟨⟨p,cc,ts,n,⟨(k.block R d.lt (by omega)).trans d.blk,d.tkLow hb,d.lo,d.le,d.len⟩,hl⟩,hk.trans k (fun x e=>.inr (by subst e;exact hT))⟩
theorem Rs.go {R:Nat}{l:List Tk}{a b:World}(h:Rs R l a b){p:Option Addr}{c:Nat}{ts:List Tk}{k:Nat}(d:RDs b R p c ts k)(hl:ts.drop k=l)(hk:k<ts.length):Rs R l.tail a (b.setCell ⟨R,1,none⟩ (.int .i64 ((k+1:Nat):Int))):=
 ⟨⟨p,c,ts,k+1,d.setAt hk,by rw[←hl,(drop_some hk).2]⟩,h.2.trans ⟨rfl,rfl,rfl,by simp,fun x hx e=>Below.heap_setCell b ⟨R,1,none⟩ _ x (by show x≠R;exact e)⟩ (fun _ e=>.inl e)⟩
theorem Rs.atEnd {R:Nat}{l:List Tk}{a b:World}(h:Rs R l a b){ts:List Tk}{k:Nat}(hl:ts.drop k=l)(hk:¬k<ts.length):Rs R l.tail a b:=by
 have e:l=[]:=by rw[←hl];exact drop_none hk
 rw[e]at h ⊢
 exact h
theorem Rs.blk {R B:Nat}{l:List Tk}{a b:World}(h:Rs R l a b){cs:Array Value}{T:TypeId}(hb:Blk a B cs T)(hne:B≠R):Blk b B cs T:=⟨(h.2.block B hb.lt hne).trans hb.blk⟩
theorem keepSet (w:World)(T i:Nat)(v:Value):Keep (fun x=>x=T) w (w.setCell ⟨T,i,none⟩ v):=⟨rfl,rfl,rfl,by simp,fun x hx e=>Below.heap_setCell w ⟨T,i,none⟩ _ x (by show x≠T;exact e)⟩
theorem Rs.set {R T:Nat}{l:List Tk}{a b:World}(h:Rs R l a b)(hR:R<a.heap.size)(hT:a.heap.size≤T)(i:Nat)(v:Value):Rs R l a (b.setCell ⟨T,i,none⟩ v):=h.side hR hT (keepSet b T i v)
theorem tok3 {w:World}{T:Nat}{x y z:Value}{ty:TypeId}(h:Blk w T #[x,y,z] ty)(a b c:Value)(o:Obj):
 ((((w.setCell ⟨T,0,none⟩ a).setCell ⟨T,1,none⟩ b).setCell ⟨T,2,none⟩ c).alloc o).cell? ⟨T,0,none⟩=some a∧((((w.setCell ⟨T,0,none⟩ a).setCell ⟨T,1,none⟩ b).setCell ⟨T,2,none⟩ c).alloc o).cell? ⟨T,1,none⟩=some b∧((((w.setCell ⟨T,0,none⟩ a).setCell ⟨T,1,none⟩ b).setCell ⟨T,2,none⟩ c).alloc o).cell? ⟨T,2,none⟩=some c:=by
 have h3:Blk (((w.setCell ⟨T,0,none⟩ a).setCell ⟨T,1,none⟩ b).setCell ⟨T,2,none⟩ c) T #[a,b,c] ty:=(((h.set rfl).1.set rfl).1.set rfl).1
 have h4:=h3.up (w':=(((w.setCell ⟨T,0,none⟩ a).setCell ⟨T,1,none⟩ b).setCell ⟨T,2,none⟩ c).alloc o) kqx
 exact⟨h4.cell 0,h4.cell 1,h4.cell 2⟩
section
variable {R:Nat} {l:List Tk} {a b:World}
theorem Rs.take (h:Rs R l a b):
 Calls Tryz.prog 34 #[.pointer (some ⟨R,0,none⟩)] b fun e w'=>e= .returned (tkV (fsT l))∧Rs R l.tail b w':=by
 obtain⟨V,hV⟩:∃V,V=b.alloc (.cells #[.int .i64 0,.string ⟨#[]⟩,.int .i64 0] 78):=⟨_,rfl⟩
 have hbV:Below b.heap.size b V:=by rw[hV];exact kqx
 have hR:=h.lt
 have H0:Rs R l b V:=h.refl.up hbV
 have hb:Blk V b.heap.size #[.int .i64 0,.string ⟨#[]⟩,.int .i64 0] 78:=by rw[hV];exact Blk.new b _ _ rfl
 have HA:=H0.refl.ahead
 have HV0:Hid (Rs R l b V):=H0
 unfold tkV at *
 generalize fsT l=t at *
 clear h H0
 go_enter Tryz.func34,Tryz.ntmps34
 go_wp2_with fail
 rw[←hV]
 refine HA.mono ?_
 rintro _ w1 ⟨rfl,h1⟩
 have hb1:=h1.blk hb (by omega)
 have hlt:=hb1.lt
 have x0:w1.cell? ⟨b.heap.size,0,none⟩=some (.int .i64 0):=hb1.cell 0
 have x1:w1.cell? ⟨b.heap.size,1,none⟩=some (.string ⟨#[]⟩):=hb1.cell 1
 have x2:w1.cell? ⟨b.heap.size,2,none⟩=some (.int .i64 0):=hb1.cell 2
 have hne:¬b.heap.size=w1.heap.size:=by omega
 have hRw:=h1.lt
 have hne2:¬R=w1.heap.size:=by omega
 have hne3:¬R=b.heap.size:=by omega
 have hne4:¬w1.heap.size=R:=by omega
 have hne5:¬b.heap.size=R:=by omega
 have H1:Hid (Rs R l b w1):=HV0.out.then h1
 obtain⟨⟨p,c,ts,k,d,hl⟩,_⟩:=id H1.out
 have dA:RDs (w1.alloc (.cells #[.int .i64 t.kind,.string t.s,.int .i64 t.at_] 78)) R p c ts k:=d.up kqx
 have c0:=dA.c0
 have c1:=dA.c1
 have f1:=dA.fz 1
 have f3:=d.fz 1
 have hlen:=d.len
 have hle:=d.le
 have HD:Hid (RDs w1 R p c ts k∧ts.drop k=l):=⟨d,hl⟩
 have fz:∀i,w1.frozen? ⟨b.heap.size,i,none⟩=false:=fun i=>by simp[World.frozen?, hb1.blk]
 have g0:=fz 0
 have g1:=fz 1
 have g2:=fz 2
 have HB:Hid (Blk w1 b.heap.size #[.int .i64 0,.string ⟨#[]⟩,.int .i64 0] 78):=hb1
 clear HA hV h1 d hl hb hb1 dA fz
 by_cases hk:k<ts.length
 · have i1:(k:Int)<(ts.length:Int):=by omega
   go_wp2
   go_region
   go_wp2
   obtain⟨y0,y1,y2⟩:=tok3 (HB.out.keep (keepSet w1 R 1 (.int .i64 ((k:Int)+1))) hne5) (.int .i64 t.kind) (.string t.s) (.int .i64 t.at_) (.cells #[.int .i64 t.kind,.string t.s,.int .i64 t.at_] 78)
   refine bodyPost_ret (v:=tkV t) (by simp[results,Tryz.results34,go_sem,tkV,y0,y1,y2]) rfl ⟨rfl,?_⟩
   exact((((H1.out.go HD.out.1 HD.out.2 hk).set hR (Nat.le_refl _) 0 _).set hR (Nat.le_refl _) 1 _).set hR (Nat.le_refl _) 2 _).up kqx
 · have i1:¬(k:Int)<(ts.length:Int):=by omega
   go_wp2
   go_region
   go_wp2
   obtain⟨y0,y1,y2⟩:=tok3 HB.out (.int .i64 t.kind) (.string t.s) (.int .i64 t.at_) (.cells #[.int .i64 t.kind,.string t.s,.int .i64 t.at_] 78)
   refine bodyPost_ret (v:=tkV t) (by simp[results,Tryz.results34,go_sem,tkV,y0,y1,y2]) rfl ⟨rfl,?_⟩
   exact((((H1.out.atEnd HD.out.2 hk).set hR (Nat.le_refl _) 0 _).set hR (Nat.le_refl _) 1 _).set hR (Nat.le_refl _) 2 _).up kqx
theorem Rs.passes (h:Rs R l a b)(s:ByteArray):
 Calls Tryz.prog 35 #[.pointer (some ⟨R,0,none⟩),.string s] b fun e w'=>e= .returned (.bool (decide ((fsT l).s=s)))∧Rs R (psT s l) b w':=by
 have HA:=h.refl.ahead
 have HT:=fun w1 (k:Rs R l b w1)=>k.take
 unfold tkV at *
 have HE:Hid (∀w',Rs R l b w'→(fsT l).s≠s→Rs R (psT s l) b w'):=fun w' hk hn=>by unfold psT;rw[if_neg hn];exact hk
 have HF:Hid (∀w',Rs R l.tail b w'→(fsT l).s=s→Rs R (psT s l) b w'):=fun w' hk hn=>by unfold psT;rw[if_pos hn];exact hk
 generalize fsT l=t at *
 clear h
 by_cases hs:t.s=s
 · have HS:Hid (t.s=s):=hs
   have hb:(t.s.toList == s.toList)=true:=by rw[hs];simp
   have hfd:=fun w=>ptok_text (.int .i64 t.kind) (.string t.s) (.int .i64 t.at_) w
   clear hs
   go_enter Tryz.func35,Tryz.ntmps35
   go_wp2_with fail
   refine HA.mono ?_
   rintro _ w1 ⟨rfl,h1⟩
   have HT1:=HT w1 h1
   have H1:Hid (Rs R l b w1):=h1
   clear HA HT h1
   go_wp2_with fail
   refine HT1.mono ?_
   rintro _ w2 ⟨rfl,h2⟩
   have H2:Hid (Rs R l.tail b w2):=H1.out.then h2
   clear h2 HT1
   go_wp2
   go_ret
   exact⟨by rw[decide_eq_true HS.out];rfl,HF.out _ (H2.out.up kqx) HS.out⟩
 · have HS:Hid (¬t.s=s):=hs
   have hb:(t.s.toList == s.toList)=false:=txt_ne hs
   have hfd:=fun w=>ptok_text (.int .i64 t.kind) (.string t.s) (.int .i64 t.at_) w
   clear hs
   go_enter Tryz.func35,Tryz.ntmps35
   go_wp2_with fail
   refine HA.mono ?_
   rintro _ w1 ⟨rfl,h1⟩
   have H1:Hid (Rs R l b w1):=h1
   clear HA HT h1
   go_wp2
   go_ret
   exact⟨by rw[decide_eq_false HS.out];rfl,HE.out _ (H1.out.up kqx) HS.out⟩
end
theorem set2 {w:World}{T:Nat}{x y:Value}{ty:TypeId}(h:Blk w T #[x,y] ty)(a b:Value):
 ((w.setCell ⟨T,0,none⟩ a).setCell ⟨T,1,none⟩ b).cell? ⟨T,0,none⟩=some a∧((w.setCell ⟨T,0,none⟩ a).setCell ⟨T,1,none⟩ b).cell? ⟨T,1,none⟩=some b:=by
 have h3:Blk ((w.setCell ⟨T,0,none⟩ a).setCell ⟨T,1,none⟩ b) T #[a,b] ty:=((h.set rfl).1.set rfl).1
 exact⟨h3.cell 0,h3.cell 1⟩
section
variable {R:Nat} {l:List Tk} {a b:World}
theorem Rs.uid (h:Rs R l a b):
 Calls Tryz.prog 62 #[.pointer (some ⟨R,0,none⟩)] b fun e w'=>e= .returned (.agg #[.string (uidR l).1.t,.string (uidR l).1.i])∧Rs R (uidR l).2 b w':=by
 obtain⟨V,hV⟩:∃V,V=b.alloc (.cells #[.string ⟨#[]⟩,.string ⟨#[]⟩] 23):=⟨_,rfl⟩
 have hbV:Below b.heap.size b V:=by rw[hV];exact kqx
 have hR:=h.lt
 have H0:Rs R l b V:=h.refl.up hbV
 have hb:Blk V b.heap.size #[.string ⟨#[]⟩,.string ⟨#[]⟩] 23:=by rw[hV];exact Blk.new b _ _ rfl
 have HA:=H0.refl.take
 have HB:=fun w' (k:Rs R l.tail b w')=>k.refl.passes kCC
 have HC:=fun w' (k:Rs R (psT kCC l.tail) b w')=>k.refl.take
 unfold uidR
 obtain⟨m1,hm1⟩:∃m,m=l.tail:=⟨_,rfl⟩
 obtain⟨m2,hm2⟩:∃m,m=psT kCC l.tail:=⟨_,rfl⟩
 rw[←hm2]at HC ⊢
 rw[hm1.symm]at HA HB
 have HM:Hid (m2=psT kCC m1):=by show _=_;rw[hm2,hm1]
 rw[←HM.out]at HB
 clear hm1 hm2
 unfold tkV kCC at *
 have hfd:=fun a b d w=>ptok_text a b d w
 generalize fsT l=t at *
 generalize fsT m2=t2 at *
 generalize (decide ((fsT m1).s=⟨#[58,58]⟩))=d at *
 have HV0:Hid (Rs R l b V):=H0
 clear h H0
 go_enter Tryz.func62,Tryz.ntmps62
 go_wp2_with fail
 rw[←hV]
 refine HA.mono ?_
 rintro _ w1 ⟨rfl,h1⟩
 have hb1:=h1.blk hb (by omega)
 have hlt:=hb1.lt
 obtain⟨V1,hV1⟩:∃V1,V1=w1.alloc (.cells #[.string t.s,.string ⟨#[]⟩] 23):=⟨_,rfl⟩
 have H1:Rs R m1 b V1:=by rw[hV1];exact(HV0.out.then h1).up kqx
 have hb2:Blk V1 b.heap.size #[.string ⟨#[]⟩,.string ⟨#[]⟩] 23:=by rw[hV1];exact hb1.up kqx
 have hb3:Blk V1 w1.heap.size #[.string t.s,.string ⟨#[]⟩] 23:=by rw[hV1];exact Blk.new w1 _ _ rfl
 have HB1:=HB V1 H1
 have hRw:=h1.lt
 clear HB HA hV hb h1 hb1
 go_wp2_with fail
 rw[←hV1]
 refine HB1.mono ?_
 rintro _ w2 ⟨rfl,h2⟩
 have HC2:=HC w2 (H1.then h2)
 have hb4:=h2.blk hb2 (by omega)
 have hb5:=h2.blk hb3 (by omega)
 have H2:Hid (Rs R m2 b w2):=H1.then h2
 clear HC HB1 hV1 hb2 hb3 h2 H1
 go_wp2_with fail
 refine HC2.mono ?_
 rintro _ w3 ⟨rfl,h3⟩
 have hb6:=h3.blk hb4 (by omega)
 have hb7:=h3.blk hb5 (by omega)
 have H3:Hid (Rs R m2.tail b w3):=H2.out.then h3
 have x0:w3.cell? ⟨b.heap.size,0,none⟩=some (.string ⟨#[]⟩):=hb6.cell 0
 have x1:w3.cell? ⟨b.heap.size,1,none⟩=some (.string ⟨#[]⟩):=hb6.cell 1
 have y0:w3.cell? ⟨w1.heap.size,0,none⟩=some (.string t.s):=hb7.cell 0
 have y1:w3.cell? ⟨w1.heap.size,1,none⟩=some (.string ⟨#[]⟩):=hb7.cell 1
 have fx0:=hb6.free 0
 have fx1:=hb6.free 1
 have fy1:=hb7.free 1
 have hne:¬b.heap.size=w1.heap.size:=by omega
 have hne':¬w1.heap.size=b.heap.size:=by omega
 have HBK:Hid (Blk (w3.setCell ⟨w1.heap.size,1,none⟩ (.string t2.s)) b.heap.size #[.string ⟨#[]⟩,.string ⟨#[]⟩] 23):=hb6.keep (keepSet w3 w1.heap.size 1 _) hne
 clear HC2 hb4 hb5 hb6 hb7 h3
 go_wp2
 obtain⟨z0,z1⟩:=set2 HBK.out (.string t.s) (.string t2.s)
 refine bodyPost_ret (v:=.agg #[.string t.s,.string t2.s]) (by simp[results,Tryz.results62,go_sem,z0,z1]) rfl ⟨rfl,?_⟩
 exact((H3.out.set hR (Nat.le_of_lt hlt) 1 _).set hR (Nat.le_refl _) 0 _).set hR (Nat.le_refl _) 1 _
end
theorem cells4 {w:World}{T:Nat}{x y z u:Value}{ty:TypeId}(h:Blk w T #[x,y,z,u] ty)(a b c d:Value):
 ((((w.setCell ⟨T,0,none⟩ a).setCell ⟨T,1,none⟩ b).setCell ⟨T,2,none⟩ c).setCell ⟨T,3,none⟩ d).cell? ⟨T,0,none⟩=some a∧((((w.setCell ⟨T,0,none⟩ a).setCell ⟨T,1,none⟩ b).setCell ⟨T,2,none⟩ c).setCell ⟨T,3,none⟩ d).cell? ⟨T,1,none⟩=some b∧((((w.setCell ⟨T,0,none⟩ a).setCell ⟨T,1,none⟩ b).setCell ⟨T,2,none⟩ c).setCell ⟨T,3,none⟩ d).cell? ⟨T,2,none⟩=some c∧((((w.setCell ⟨T,0,none⟩ a).setCell ⟨T,1,none⟩ b).setCell ⟨T,2,none⟩ c).setCell ⟨T,3,none⟩ d).cell? ⟨T,3,none⟩=some d:=by
 have h3:Blk ((((w.setCell ⟨T,0,none⟩ a).setCell ⟨T,1,none⟩ b).setCell ⟨T,2,none⟩ c).setCell ⟨T,3,none⟩ d) T #[a,b,c,d] ty:=((((h.set rfl).1.set rfl).1.set rfl).1.set rfl).1
 exact⟨h3.cell 0,h3.cell 1,h3.cell 2,h3.cell 3⟩
theorem Rs.setF {R T:Nat}{l:List Tk}{a b:World}(h:Rs R l a b)(hR:R<a.heap.size)(hT:a.heap.size≤T)(x y z u:Value):Rs R l a ((((b.setCell ⟨T,0,none⟩ x).setCell ⟨T,1,none⟩ y).setCell ⟨T,2,none⟩ z).setCell ⟨T,3,none⟩ u):=(((h.set hR hT 0 x).set hR hT 1 y).set hR hT 2 z).set hR hT 3 u
def scoV (s:Sco):Value:=.agg #[.int .i64 s.op,.string s.ty,.string s.u.t,.string s.u.i]
section
variable {R:Nat} {l:List Tk} {a b:World}
theorem Rs.us_slot (h:Rs R l a b)(x y:Int)(hk:(fsT l).kind=4):
 Calls Tryz.prog 61 #[.pointer (some ⟨R,0,none⟩),.int .i64 x,.int .i64 y] b fun e w'=>e= .returned (scoV (usR x y l).1)∧Rs R (usR x y l).2 b w':=by
 obtain⟨V,hV⟩:∃V,V=b.alloc (.cells #[.int .i64 0,.string ⟨#[]⟩,.string ⟨#[]⟩,.string ⟨#[]⟩] 25):=⟨_,rfl⟩
 have hbV:Below b.heap.size b V:=by rw[hV];exact kqx
 have hR:=h.lt
 have H0:Rs R l b V:=h.refl.up hbV
 have HK0:Hid (Blk V b.heap.size #[.int .i64 0,.string ⟨#[]⟩,.string ⟨#[]⟩,.string ⟨#[]⟩] 25):=by rw[hV];exact Blk.new b _ _ rfl
 have HA:=H0.refl.ahead
 have HB:=fun w' (k:Rs R l b w')=>k.refl.take
 have HE:Hid (usR x y l=(⟨y,eB,eU⟩,l.tail)):=by show _=_;unfold usR;rw[if_pos hk]
 rw[HE.out]
 have hi:((fsT l).kind == 4)=true:=by rw[hk];rfl
 have hfd:=fun a b d w=>ptok_kind a b d w
 have HV0:Hid (Rs R l b V):=H0
 clear HE hk h H0
 unfold tkV at *
 generalize fsT l=t at *
 go_enter Tryz.func61,Tryz.ntmps61
 go_wp2_with fail
 rw[←hV]
 refine HA.mono ?_
 rintro _ w1 ⟨rfl,h1⟩
 have hK1:=h1.blk HK0.out (by omega)
 have H1:Hid (Rs R l b w1):=HV0.out.then h1
 have HB1:=HB w1 H1.out
 clear HA HB hV h1
 go_wp2_with fail
 refine HB1.mono ?_
 rintro _ w2 ⟨rfl,h2⟩
 have HK2:Hid (Blk w2 b.heap.size #[.int .i64 0,.string ⟨#[]⟩,.string ⟨#[]⟩,.string ⟨#[]⟩] 25):=h2.blk hK1 (by omega)
 have H2:=H1.out.then h2
 have H2':Hid (Rs R _ b w2):=H2
 clear HB1 hK1 h2 H2
 have x0:w2.cell? ⟨b.heap.size,0,none⟩=some (.int .i64 0):=HK2.out.cell 0
 have x1:w2.cell? ⟨b.heap.size,1,none⟩=some (.string ⟨#[]⟩):=HK2.out.cell 1
 have x2:w2.cell? ⟨b.heap.size,2,none⟩=some (.string ⟨#[]⟩):=HK2.out.cell 2
 have x3:w2.cell? ⟨b.heap.size,3,none⟩=some (.string ⟨#[]⟩):=HK2.out.cell 3
 have fx0:=HK2.out.free 0
 have fx1:=HK2.out.free 1
 have fx2:=HK2.out.free 2
 have fx3:=HK2.out.free 3
 go_wp2
 obtain⟨z0,z1,z2,z3⟩:=cells4 HK2.out (.int .i64 y) (.string ⟨#[]⟩) (.string ⟨#[]⟩) (.string ⟨#[]⟩)
 refine bodyPost_ret (v:=.agg #[.int .i64 y,.string ⟨#[]⟩,.string ⟨#[]⟩,.string ⟨#[]⟩]) (by simp[results,Tryz.results61,go_sem,z0,z1,z2,z3]) rfl ⟨rfl,?_⟩
 exact H2'.out.setF hR (Nat.le_refl _) _ _ _ _
theorem Rs.us_uid (h:Rs R l a b)(x y:Int)(hk:(fsT l).kind≠4):
 Calls Tryz.prog 61 #[.pointer (some ⟨R,0,none⟩),.int .i64 x,.int .i64 y] b fun e w'=>e= .returned (scoV (usR x y l).1)∧Rs R (usR x y l).2 b w':=by
 obtain⟨V,hV⟩:∃V,V=b.alloc (.cells #[.int .i64 0,.string ⟨#[]⟩,.string ⟨#[]⟩,.string ⟨#[]⟩] 25):=⟨_,rfl⟩
 have hbV:Below b.heap.size b V:=by rw[hV];exact kqx
 have hR:=h.lt
 have H0:Rs R l b V:=h.refl.up hbV
 have HK0:Hid (Blk V b.heap.size #[.int .i64 0,.string ⟨#[]⟩,.string ⟨#[]⟩,.string ⟨#[]⟩] 25):=by rw[hV];exact Blk.new b _ _ rfl
 have HA:=H0.refl.ahead
 have HB:=fun w' (k:Rs R l b w')=>k.refl.uid
 have HE:Hid (usR x y l=(⟨x,eB,(uidR l).1⟩,(uidR l).2)):=by show _=_;unfold usR;rw[if_neg hk]
 rw[HE.out]
 have hi:((fsT l).kind == 4)=false:=by rw[beq_eq_false_iff_ne];exact hk
 generalize (uidR l).2=l2 at *
 generalize (uidR l).1=u at *
 have hfd:=fun a b d w=>ptok_kind a b d w
 have HV0:Hid (Rs R l b V):=H0
 clear HE hk h H0
 unfold tkV at *
 generalize fsT l=t at *
 go_enter Tryz.func61,Tryz.ntmps61
 go_wp2_with fail
 rw[←hV]
 refine HA.mono ?_
 rintro _ w1 ⟨rfl,h1⟩
 have hK1:=h1.blk HK0.out (by omega)
 have H1:Hid (Rs R l b w1):=HV0.out.then h1
 have HB1:=HB w1 H1.out
 clear HA HB hV h1
 go_wp2_with fail
 refine HB1.mono ?_
 rintro _ w2 ⟨rfl,h2⟩
 have HK2:Hid (Blk w2 b.heap.size #[.int .i64 0,.string ⟨#[]⟩,.string ⟨#[]⟩,.string ⟨#[]⟩] 25):=h2.blk hK1 (by omega)
 have H2:=H1.out.then h2
 have H2':Hid (Rs R _ b w2):=H2
 clear HB1 hK1 h2 H2
 have x0:w2.cell? ⟨b.heap.size,0,none⟩=some (.int .i64 0):=HK2.out.cell 0
 have x1:w2.cell? ⟨b.heap.size,1,none⟩=some (.string ⟨#[]⟩):=HK2.out.cell 1
 have x2:w2.cell? ⟨b.heap.size,2,none⟩=some (.string ⟨#[]⟩):=HK2.out.cell 2
 have x3:w2.cell? ⟨b.heap.size,3,none⟩=some (.string ⟨#[]⟩):=HK2.out.cell 3
 have fx0:=HK2.out.free 0
 have fx1:=HK2.out.free 1
 have fx2:=HK2.out.free 2
 have fx3:=HK2.out.free 3
 go_wp2
 obtain⟨z0,z1,z2,z3⟩:=cells4 HK2.out (.int .i64 x) (.string ⟨#[]⟩) (.string u.t) (.string u.i)
 refine bodyPost_ret (v:=.agg #[.int .i64 x,.string ⟨#[]⟩,.string u.t,.string u.i]) (by simp[results,Tryz.results61,go_sem,z0,z1,z2,z3]) rfl ⟨rfl,?_⟩
 exact H2'.out.setF hR (Nat.le_refl _) _ _ _ _
theorem Rs.us (h:Rs R l a b)(x y:Int):
 Calls Tryz.prog 61 #[.pointer (some ⟨R,0,none⟩),.int .i64 x,.int .i64 y] b fun e w'=>e= .returned (scoV (usR x y l).1)∧Rs R (usR x y l).2 b w':=by
 by_cases hk:(fsT l).kind=4
 · exact h.us_slot x y hk
 · exact h.us_uid x y hk
theorem Rs.sc_eq (h:Rs R l a b)(hq:(fsT l.tail).s=⟨#[61,61]⟩):
 Calls Tryz.prog 36 #[.pointer (some ⟨R,0,none⟩)] b fun e w'=>e= .returned (scoV (scR l.tail).1)∧Rs R (scR l.tail).2 b w':=by
 obtain⟨V,hV⟩:∃V,V=b.alloc (.cells #[.int .i64 0,.string ⟨#[]⟩,.string ⟨#[]⟩,.string ⟨#[]⟩] 25):=⟨_,rfl⟩
 have hbV:Below b.heap.size b V:=by rw[hV];exact kqx
 have hR:=h.lt
 have H0:Rs R l b V:=h.refl.up hbV
 have HK0:Hid (Blk V b.heap.size #[.int .i64 0,.string ⟨#[]⟩,.string ⟨#[]⟩,.string ⟨#[]⟩] 25):=by rw[hV];exact Blk.new b _ _ rfl
 have HE:Hid (scR l.tail=usR 1 5 l.tail.tail):=by show _=_;unfold scR;exact if_pos hq
 rw[HE.out]
 have hfd:=fun a b d w=>ptok_text a b d w
 have HV0:Hid (Rs R l b V):=H0
 have HC0:=H0.refl.take
 have HC1:=fun w' (k:Rs R (l.tail) b w')=>k.refl.passes ⟨#[61,61]⟩
 rw[show decide ((fsT l.tail).s=⟨#[61,61]⟩)=true from decide_eq_true hq]at HC1
 rw[show psT ⟨#[61,61]⟩ l.tail=l.tail.tail from if_pos hq]at HC1
 have HC2:=fun w' (k:Rs R (l.tail.tail) b w')=>k.refl.us 1 5
 generalize (usR 1 5 l.tail.tail).2=m2 at *
 unfold scoV at *
 generalize (usR 1 5 l.tail.tail).1=u at *
 generalize fsT l=t0 at *
 clear HE h H0
 unfold tkV at *
 go_enter Tryz.func36,Tryz.ntmps36
 go_wp2_with fail
 rw[←hV]
 refine HC0.mono ?_
 rintro _ w0 ⟨rfl,h0⟩
 have HK:Hid (Blk w0 b.heap.size #[.int .i64 0,.string ⟨#[]⟩,.string ⟨#[]⟩,.string ⟨#[]⟩] 25):=h0.blk HK0.out (by omega)
 have HH:Rs R l.tail b w0:=HV0.out.then h0
 clear HC0 hV h0 HK0
 have HD1:=HC1 w0 HH
 have HG1:Hid (Rs R _ b w0):=HH
 have HQ1:=HK
 clear HC1 HH HK
 go_wp2_with fail
 refine HD1.mono ?_
 rintro _ w1 ⟨rfl,h1⟩
 have HK:Hid (Blk w1 b.heap.size #[.int .i64 0,.string ⟨#[]⟩,.string ⟨#[]⟩,.string ⟨#[]⟩] 25):=h1.blk HQ1.out (by omega)
 have HH:=HG1.out.then h1
 clear HD1 HG1 HQ1 h1
 have HD2:=HC2 w1 HH
 have HG2:Hid (Rs R _ b w1):=HH
 have HQ2:=HK
 clear HC2 HH HK
 go_wp2_with fail
 refine HD2.mono ?_
 rintro _ w2 ⟨rfl,h2⟩
 have HK:Hid (Blk w2 b.heap.size #[.int .i64 0,.string ⟨#[]⟩,.string ⟨#[]⟩,.string ⟨#[]⟩] 25):=h2.blk HQ2.out (by omega)
 have HH:=HG2.out.then h2
 clear HD2 HG2 HQ2 h2
 have HHd:Hid (Rs R _ b w2):=HH
 clear HH
 have x0:w2.cell? ⟨b.heap.size,0,none⟩=some (.int .i64 0):=HK.out.cell 0
 have x1:w2.cell? ⟨b.heap.size,1,none⟩=some (.string ⟨#[]⟩):=HK.out.cell 1
 have x2:w2.cell? ⟨b.heap.size,2,none⟩=some (.string ⟨#[]⟩):=HK.out.cell 2
 have x3:w2.cell? ⟨b.heap.size,3,none⟩=some (.string ⟨#[]⟩):=HK.out.cell 3
 have fx0:=HK.out.free 0
 have fx1:=HK.out.free 1
 have fx2:=HK.out.free 2
 have fx3:=HK.out.free 3
 go_wp2
 obtain⟨z0,z1,z2,z3⟩:=cells4 HK.out (.int .i64 u.op) (.string u.ty) (.string u.u.t) (.string u.u.i)
 refine bodyPost_ret (v:=.agg #[.int .i64 u.op,.string u.ty,.string u.u.t,.string u.u.i]) (by simp[results,Tryz.results36,go_sem,z0,z1,z2,z3]) rfl ⟨rfl,?_⟩
 exact HHd.out.setF hR (Nat.le_refl _) _ _ _ _
theorem Rs.sc_in (h:Rs R l a b)(hq:¬(fsT l.tail).s=⟨#[61,61]⟩)(hn:(fsT l.tail).s=⟨#[105,110]⟩):
 Calls Tryz.prog 36 #[.pointer (some ⟨R,0,none⟩)] b fun e w'=>e= .returned (scoV (scR l.tail).1)∧Rs R (scR l.tail).2 b w':=by
 obtain⟨V,hV⟩:∃V,V=b.alloc (.cells #[.int .i64 0,.string ⟨#[]⟩,.string ⟨#[]⟩,.string ⟨#[]⟩] 25):=⟨_,rfl⟩
 have hbV:Below b.heap.size b V:=by rw[hV];exact kqx
 have hR:=h.lt
 have H0:Rs R l b V:=h.refl.up hbV
 have HK0:Hid (Blk V b.heap.size #[.int .i64 0,.string ⟨#[]⟩,.string ⟨#[]⟩,.string ⟨#[]⟩] 25):=by rw[hV];exact Blk.new b _ _ rfl
 have HE:Hid (scR l.tail=usR 2 6 l.tail.tail):=by show _=_;unfold scR;rw[if_neg (show ¬_=kEq from hq)];exact if_pos hn
 rw[HE.out]
 have hfd:=fun a b d w=>ptok_text a b d w
 have HV0:Hid (Rs R l b V):=H0
 have HC0:=H0.refl.take
 have HC1:=fun w' (k:Rs R (l.tail) b w')=>k.refl.passes ⟨#[61,61]⟩
 rw[show decide ((fsT l.tail).s=⟨#[61,61]⟩)=false from decide_eq_false hq]at HC1
 rw[show psT ⟨#[61,61]⟩ l.tail=l.tail from if_neg hq]at HC1
 have HC2:=fun w' (k:Rs R (l.tail) b w')=>k.refl.passes ⟨#[105,110]⟩
 rw[show decide ((fsT l.tail).s=⟨#[105,110]⟩)=true from decide_eq_true hn]at HC2
 rw[show psT ⟨#[105,110]⟩ l.tail=l.tail.tail from if_pos hn]at HC2
 have HC3:=fun w' (k:Rs R (l.tail.tail) b w')=>k.refl.us 2 6
 generalize (usR 2 6 l.tail.tail).2=m2 at *
 unfold scoV at *
 generalize (usR 2 6 l.tail.tail).1=u at *
 generalize fsT l=t0 at *
 clear HE h H0
 unfold tkV at *
 go_enter Tryz.func36,Tryz.ntmps36
 go_wp2_with fail
 rw[←hV]
 refine HC0.mono ?_
 rintro _ w0 ⟨rfl,h0⟩
 have HK:Hid (Blk w0 b.heap.size #[.int .i64 0,.string ⟨#[]⟩,.string ⟨#[]⟩,.string ⟨#[]⟩] 25):=h0.blk HK0.out (by omega)
 have HH:Rs R l.tail b w0:=HV0.out.then h0
 clear HC0 hV h0 HK0
 have HD1:=HC1 w0 HH
 have HG1:Hid (Rs R _ b w0):=HH
 have HQ1:=HK
 clear HC1 HH HK
 go_wp2_with fail
 refine HD1.mono ?_
 rintro _ w1 ⟨rfl,h1⟩
 have HK:Hid (Blk w1 b.heap.size #[.int .i64 0,.string ⟨#[]⟩,.string ⟨#[]⟩,.string ⟨#[]⟩] 25):=h1.blk HQ1.out (by omega)
 have HH:=HG1.out.then h1
 clear HD1 HG1 HQ1 h1
 have HD2:=HC2 w1 HH
 have HG2:Hid (Rs R _ b w1):=HH
 have HQ2:=HK
 clear HC2 HH HK
 go_wp2_with fail
 refine HD2.mono ?_
 rintro _ w2 ⟨rfl,h2⟩
 have HK:Hid (Blk w2 b.heap.size #[.int .i64 0,.string ⟨#[]⟩,.string ⟨#[]⟩,.string ⟨#[]⟩] 25):=h2.blk HQ2.out (by omega)
 have HH:=HG2.out.then h2
 clear HD2 HG2 HQ2 h2
 have HD3:=HC3 w2 HH
 have HG3:Hid (Rs R _ b w2):=HH
 have HQ3:=HK
 clear HC3 HH HK
 go_wp2_with fail
 refine HD3.mono ?_
 rintro _ w3 ⟨rfl,h3⟩
 have HK:Hid (Blk w3 b.heap.size #[.int .i64 0,.string ⟨#[]⟩,.string ⟨#[]⟩,.string ⟨#[]⟩] 25):=h3.blk HQ3.out (by omega)
 have HH:=HG3.out.then h3
 clear HD3 HG3 HQ3 h3
 have HHd:Hid (Rs R _ b w3):=HH
 clear HH
 have x0:w3.cell? ⟨b.heap.size,0,none⟩=some (.int .i64 0):=HK.out.cell 0
 have x1:w3.cell? ⟨b.heap.size,1,none⟩=some (.string ⟨#[]⟩):=HK.out.cell 1
 have x2:w3.cell? ⟨b.heap.size,2,none⟩=some (.string ⟨#[]⟩):=HK.out.cell 2
 have x3:w3.cell? ⟨b.heap.size,3,none⟩=some (.string ⟨#[]⟩):=HK.out.cell 3
 have fx0:=HK.out.free 0
 have fx1:=HK.out.free 1
 have fx2:=HK.out.free 2
 have fx3:=HK.out.free 3
 go_wp2
 obtain⟨z0,z1,z2,z3⟩:=cells4 HK.out (.int .i64 u.op) (.string u.ty) (.string u.u.t) (.string u.u.i)
 refine bodyPost_ret (v:=.agg #[.int .i64 u.op,.string u.ty,.string u.u.t,.string u.u.i]) (by simp[results,Tryz.results36,go_sem,z0,z1,z2,z3]) rfl ⟨rfl,?_⟩
 exact HHd.out.setF hR (Nat.le_refl _) _ _ _ _
theorem Rs.sc_none (h:Rs R l a b)(hq:¬(fsT l.tail).s=⟨#[61,61]⟩)(hn:¬(fsT l.tail).s=⟨#[105,110]⟩)(hs:¬(fsT l.tail).s=⟨#[105,115]⟩):
 Calls Tryz.prog 36 #[.pointer (some ⟨R,0,none⟩)] b fun e w'=>e= .returned (scoV (scR l.tail).1)∧Rs R (scR l.tail).2 b w':=by
 obtain⟨V,hV⟩:∃V,V=b.alloc (.cells #[.int .i64 0,.string ⟨#[]⟩,.string ⟨#[]⟩,.string ⟨#[]⟩] 25):=⟨_,rfl⟩
 have hbV:Below b.heap.size b V:=by rw[hV];exact kqx
 have hR:=h.lt
 have H0:Rs R l b V:=h.refl.up hbV
 have HK0:Hid (Blk V b.heap.size #[.int .i64 0,.string ⟨#[]⟩,.string ⟨#[]⟩,.string ⟨#[]⟩] 25):=by rw[hV];exact Blk.new b _ _ rfl
 have HE:Hid (scR l.tail=(⟨0,eB,eU⟩,l.tail)):=by show _=_;unfold scR;rw[if_neg (show ¬_=kEq from hq),if_neg (show ¬_=kIn from hn),if_neg (show ¬_=kIs from hs)]
 rw[HE.out]
 have hfd:=fun a b d w=>ptok_text a b d w
 have HV0:Hid (Rs R l b V):=H0
 have HC0:=H0.refl.take
 have HC1:=fun w' (k:Rs R (l.tail) b w')=>k.refl.passes ⟨#[61,61]⟩
 rw[show decide ((fsT l.tail).s=⟨#[61,61]⟩)=false from decide_eq_false hq]at HC1
 rw[show psT ⟨#[61,61]⟩ l.tail=l.tail from if_neg hq]at HC1
 have HC2:=fun w' (k:Rs R (l.tail) b w')=>k.refl.passes ⟨#[105,110]⟩
 rw[show decide ((fsT l.tail).s=⟨#[105,110]⟩)=false from decide_eq_false hn]at HC2
 rw[show psT ⟨#[105,110]⟩ l.tail=l.tail from if_neg hn]at HC2
 have HC3:=fun w' (k:Rs R (l.tail) b w')=>k.refl.passes ⟨#[105,115]⟩
 rw[show decide ((fsT l.tail).s=⟨#[105,115]⟩)=false from decide_eq_false hs]at HC3
 rw[show psT ⟨#[105,115]⟩ l.tail=l.tail from if_neg hs]at HC3
 generalize fsT l=t0 at *
 clear HE h H0
 unfold tkV at *
 go_enter Tryz.func36,Tryz.ntmps36
 go_wp2_with fail
 rw[←hV]
 refine HC0.mono ?_
 rintro _ w0 ⟨rfl,h0⟩
 have HK:Hid (Blk w0 b.heap.size #[.int .i64 0,.string ⟨#[]⟩,.string ⟨#[]⟩,.string ⟨#[]⟩] 25):=h0.blk HK0.out (by omega)
 have HH:Rs R l.tail b w0:=HV0.out.then h0
 clear HC0 hV h0 HK0
 have HD1:=HC1 w0 HH
 have HG1:Hid (Rs R _ b w0):=HH
 have HQ1:=HK
 clear HC1 HH HK
 go_wp2_with fail
 refine HD1.mono ?_
 rintro _ w1 ⟨rfl,h1⟩
 have HK:Hid (Blk w1 b.heap.size #[.int .i64 0,.string ⟨#[]⟩,.string ⟨#[]⟩,.string ⟨#[]⟩] 25):=h1.blk HQ1.out (by omega)
 have HH:=HG1.out.then h1
 clear HD1 HG1 HQ1 h1
 have HD2:=HC2 w1 HH
 have HG2:Hid (Rs R _ b w1):=HH
 have HQ2:=HK
 clear HC2 HH HK
 go_wp2_with fail
 refine HD2.mono ?_
 rintro _ w2 ⟨rfl,h2⟩
 have HK:Hid (Blk w2 b.heap.size #[.int .i64 0,.string ⟨#[]⟩,.string ⟨#[]⟩,.string ⟨#[]⟩] 25):=h2.blk HQ2.out (by omega)
 have HH:=HG2.out.then h2
 clear HD2 HG2 HQ2 h2
 have HD3:=HC3 w2 HH
 have HG3:Hid (Rs R _ b w2):=HH
 have HQ3:=HK
 clear HC3 HH HK
 go_wp2_with fail
 refine HD3.mono ?_
 rintro _ w3 ⟨rfl,h3⟩
 have HK:Hid (Blk w3 b.heap.size #[.int .i64 0,.string ⟨#[]⟩,.string ⟨#[]⟩,.string ⟨#[]⟩] 25):=h3.blk HQ3.out (by omega)
 have HH:=HG3.out.then h3
 clear HD3 HG3 HQ3 h3
 have HHd:Hid (Rs R _ b w3):=HH
 clear HH
 have x0:w3.cell? ⟨b.heap.size,0,none⟩=some (.int .i64 0):=HK.out.cell 0
 have x1:w3.cell? ⟨b.heap.size,1,none⟩=some (.string ⟨#[]⟩):=HK.out.cell 1
 have x2:w3.cell? ⟨b.heap.size,2,none⟩=some (.string ⟨#[]⟩):=HK.out.cell 2
 have x3:w3.cell? ⟨b.heap.size,3,none⟩=some (.string ⟨#[]⟩):=HK.out.cell 3
 have fx0:=HK.out.free 0
 have fx1:=HK.out.free 1
 have fx2:=HK.out.free 2
 have fx3:=HK.out.free 3
 go_wp2
 obtain⟨z0,z1,z2,z3⟩:=cells4 HK.out (.int .i64 0) (.string ⟨#[]⟩) (.string ⟨#[]⟩) (.string ⟨#[]⟩)
 refine bodyPost_ret (v:=.agg #[.int .i64 0,.string ⟨#[]⟩,.string ⟨#[]⟩,.string ⟨#[]⟩]) (by simp[results,Tryz.results36,go_sem,z0,z1,z2,z3]) rfl ⟨rfl,?_⟩
 exact HHd.out.setF hR (Nat.le_refl _) _ _ _ _
theorem Rs.sc_is (h:Rs R l a b)(hq:¬(fsT l.tail).s=⟨#[61,61]⟩)(hn:¬(fsT l.tail).s=⟨#[105,110]⟩)(hs:(fsT l.tail).s=⟨#[105,115]⟩)(hi:¬(fsT l.tail.tail.tail).s=⟨#[105,110]⟩):
 Calls Tryz.prog 36 #[.pointer (some ⟨R,0,none⟩)] b fun e w'=>e= .returned (scoV (scR l.tail).1)∧Rs R (scR l.tail).2 b w':=by
 obtain⟨V,hV⟩:∃V,V=b.alloc (.cells #[.int .i64 0,.string ⟨#[]⟩,.string ⟨#[]⟩,.string ⟨#[]⟩] 25):=⟨_,rfl⟩
 have hbV:Below b.heap.size b V:=by rw[hV];exact kqx
 have hR:=h.lt
 have H0:Rs R l b V:=h.refl.up hbV
 have HK0:Hid (Blk V b.heap.size #[.int .i64 0,.string ⟨#[]⟩,.string ⟨#[]⟩,.string ⟨#[]⟩] 25):=by rw[hV];exact Blk.new b _ _ rfl
 have HE:Hid (scR l.tail=(⟨3,(fsT l.tail.tail).s,eU⟩,l.tail.tail.tail)):=by show _=_;unfold scR;rw[if_neg (show ¬_=kEq from hq),if_neg (show ¬_=kIn from hn),if_pos (show _=kIs from hs)];unfold isR;exact if_neg hi
 rw[HE.out]
 have hfd:=fun a b d w=>ptok_text a b d w
 have HV0:Hid (Rs R l b V):=H0
 have HC0:=H0.refl.take
 have HC1:=fun w' (k:Rs R (l.tail) b w')=>k.refl.passes ⟨#[61,61]⟩
 rw[show decide ((fsT l.tail).s=⟨#[61,61]⟩)=false from decide_eq_false hq]at HC1
 rw[show psT ⟨#[61,61]⟩ l.tail=l.tail from if_neg hq]at HC1
 have HC2:=fun w' (k:Rs R (l.tail) b w')=>k.refl.passes ⟨#[105,110]⟩
 rw[show decide ((fsT l.tail).s=⟨#[105,110]⟩)=false from decide_eq_false hn]at HC2
 rw[show psT ⟨#[105,110]⟩ l.tail=l.tail from if_neg hn]at HC2
 have HC3:=fun w' (k:Rs R (l.tail) b w')=>k.refl.passes ⟨#[105,115]⟩
 rw[show decide ((fsT l.tail).s=⟨#[105,115]⟩)=true from decide_eq_true hs]at HC3
 rw[show psT ⟨#[105,115]⟩ l.tail=l.tail.tail from if_pos hs]at HC3
 have HC4:=fun w' (k:Rs R (l.tail.tail) b w')=>k.refl.take
 have HC5:=fun w' (k:Rs R (l.tail.tail.tail) b w')=>k.refl.passes ⟨#[105,110]⟩
 rw[show decide ((fsT l.tail.tail.tail).s=⟨#[105,110]⟩)=false from decide_eq_false hi]at HC5
 rw[show psT ⟨#[105,110]⟩ l.tail.tail.tail=l.tail.tail.tail from if_neg hi]at HC5
 generalize fsT l=t0 at *
 generalize fsT l.tail.tail=t1 at *
 clear HE h H0
 unfold tkV at *
 go_enter Tryz.func36,Tryz.ntmps36
 go_wp2_with fail
 rw[←hV]
 refine HC0.mono ?_
 rintro _ w0 ⟨rfl,h0⟩
 have HK:Hid (Blk w0 b.heap.size #[.int .i64 0,.string ⟨#[]⟩,.string ⟨#[]⟩,.string ⟨#[]⟩] 25):=h0.blk HK0.out (by omega)
 have HH:Rs R l.tail b w0:=HV0.out.then h0
 clear HC0 hV h0 HK0
 have HD1:=HC1 w0 HH
 have HG1:Hid (Rs R _ b w0):=HH
 have HQ1:=HK
 clear HC1 HH HK
 go_wp2_with fail
 refine HD1.mono ?_
 rintro _ w1 ⟨rfl,h1⟩
 have HK:Hid (Blk w1 b.heap.size #[.int .i64 0,.string ⟨#[]⟩,.string ⟨#[]⟩,.string ⟨#[]⟩] 25):=h1.blk HQ1.out (by omega)
 have HH:=HG1.out.then h1
 clear HD1 HG1 HQ1 h1
 have HD2:=HC2 w1 HH
 have HG2:Hid (Rs R _ b w1):=HH
 have HQ2:=HK
 clear HC2 HH HK
 go_wp2_with fail
 refine HD2.mono ?_
 rintro _ w2 ⟨rfl,h2⟩
 have HK:Hid (Blk w2 b.heap.size #[.int .i64 0,.string ⟨#[]⟩,.string ⟨#[]⟩,.string ⟨#[]⟩] 25):=h2.blk HQ2.out (by omega)
 have HH:=HG2.out.then h2
 clear HD2 HG2 HQ2 h2
 have HD3:=HC3 w2 HH
 have HG3:Hid (Rs R _ b w2):=HH
 have HQ3:=HK
 clear HC3 HH HK
 go_wp2_with fail
 refine HD3.mono ?_
 rintro _ w3 ⟨rfl,h3⟩
 have HK:Hid (Blk w3 b.heap.size #[.int .i64 0,.string ⟨#[]⟩,.string ⟨#[]⟩,.string ⟨#[]⟩] 25):=h3.blk HQ3.out (by omega)
 have HH:=HG3.out.then h3
 clear HD3 HG3 HQ3 h3
 have HD4:=HC4 w3 HH
 have HG4:Hid (Rs R _ b w3):=HH
 have HQ4:=HK
 clear HC4 HH HK
 go_wp2_with fail
 refine HD4.mono ?_
 rintro _ w4 ⟨rfl,h4⟩
 have HK:Hid (Blk w4 b.heap.size #[.int .i64 0,.string ⟨#[]⟩,.string ⟨#[]⟩,.string ⟨#[]⟩] 25):=h4.blk HQ4.out (by omega)
 have HH:=HG4.out.then h4
 clear HD4 HG4 HQ4 h4
 have HD5:=HC5 w4 HH
 have HG5:Hid (Rs R _ b w4):=HH
 have HQ5:=HK
 clear HC5 HH HK
 go_wp2_with fail
 refine HD5.mono ?_
 rintro _ w5 ⟨rfl,h5⟩
 have HK:Hid (Blk w5 b.heap.size #[.int .i64 0,.string ⟨#[]⟩,.string ⟨#[]⟩,.string ⟨#[]⟩] 25):=h5.blk HQ5.out (by omega)
 have HH:=HG5.out.then h5
 clear HD5 HG5 HQ5 h5
 have HHd:Hid (Rs R _ b w5):=HH
 clear HH
 have x0:w5.cell? ⟨b.heap.size,0,none⟩=some (.int .i64 0):=HK.out.cell 0
 have x1:w5.cell? ⟨b.heap.size,1,none⟩=some (.string ⟨#[]⟩):=HK.out.cell 1
 have x2:w5.cell? ⟨b.heap.size,2,none⟩=some (.string ⟨#[]⟩):=HK.out.cell 2
 have x3:w5.cell? ⟨b.heap.size,3,none⟩=some (.string ⟨#[]⟩):=HK.out.cell 3
 have fx0:=HK.out.free 0
 have fx1:=HK.out.free 1
 have fx2:=HK.out.free 2
 have fx3:=HK.out.free 3
 go_wp2
 obtain⟨z0,z1,z2,z3⟩:=cells4 HK.out (.int .i64 3) (.string t1.s) (.string ⟨#[]⟩) (.string ⟨#[]⟩)
 refine bodyPost_ret (v:=.agg #[.int .i64 3,.string t1.s,.string ⟨#[]⟩,.string ⟨#[]⟩]) (by simp[results,Tryz.results36,go_sem,z0,z1,z2,z3]) rfl ⟨rfl,?_⟩
 exact HHd.out.setF hR (Nat.le_refl _) _ _ _ _
theorem Rs.sc_isin (h:Rs R l a b)(hq:¬(fsT l.tail).s=⟨#[61,61]⟩)(hn:¬(fsT l.tail).s=⟨#[105,110]⟩)(hs:(fsT l.tail).s=⟨#[105,115]⟩)(hi:(fsT l.tail.tail.tail).s=⟨#[105,110]⟩):
 Calls Tryz.prog 36 #[.pointer (some ⟨R,0,none⟩)] b fun e w'=>e= .returned (scoV (scR l.tail).1)∧Rs R (scR l.tail).2 b w':=by
 obtain⟨V,hV⟩:∃V,V=b.alloc (.cells #[.int .i64 0,.string ⟨#[]⟩,.string ⟨#[]⟩,.string ⟨#[]⟩] 25):=⟨_,rfl⟩
 have hbV:Below b.heap.size b V:=by rw[hV];exact kqx
 have hR:=h.lt
 have H0:Rs R l b V:=h.refl.up hbV
 have HK0:Hid (Blk V b.heap.size #[.int .i64 0,.string ⟨#[]⟩,.string ⟨#[]⟩,.string ⟨#[]⟩] 25):=by rw[hV];exact Blk.new b _ _ rfl
 have HE:Hid (scR l.tail=(⟨4,(fsT l.tail.tail).s,(uidR l.tail.tail.tail.tail).1⟩,(uidR l.tail.tail.tail.tail).2)):=by show _=_;unfold scR;rw[if_neg (show ¬_=kEq from hq),if_neg (show ¬_=kIn from hn),if_pos (show _=kIs from hs)];unfold isR;exact if_pos hi
 rw[HE.out]
 have hfd:=fun a b d w=>ptok_text a b d w
 have HV0:Hid (Rs R l b V):=H0
 have HC0:=H0.refl.take
 have HC1:=fun w' (k:Rs R (l.tail) b w')=>k.refl.passes ⟨#[61,61]⟩
 rw[show decide ((fsT l.tail).s=⟨#[61,61]⟩)=false from decide_eq_false hq]at HC1
 rw[show psT ⟨#[61,61]⟩ l.tail=l.tail from if_neg hq]at HC1
 have HC2:=fun w' (k:Rs R (l.tail) b w')=>k.refl.passes ⟨#[105,110]⟩
 rw[show decide ((fsT l.tail).s=⟨#[105,110]⟩)=false from decide_eq_false hn]at HC2
 rw[show psT ⟨#[105,110]⟩ l.tail=l.tail from if_neg hn]at HC2
 have HC3:=fun w' (k:Rs R (l.tail) b w')=>k.refl.passes ⟨#[105,115]⟩
 rw[show decide ((fsT l.tail).s=⟨#[105,115]⟩)=true from decide_eq_true hs]at HC3
 rw[show psT ⟨#[105,115]⟩ l.tail=l.tail.tail from if_pos hs]at HC3
 have HC4:=fun w' (k:Rs R (l.tail.tail) b w')=>k.refl.take
 have HC5:=fun w' (k:Rs R (l.tail.tail.tail) b w')=>k.refl.passes ⟨#[105,110]⟩
 rw[show decide ((fsT l.tail.tail.tail).s=⟨#[105,110]⟩)=true from decide_eq_true hi]at HC5
 rw[show psT ⟨#[105,110]⟩ l.tail.tail.tail=l.tail.tail.tail.tail from if_pos hi]at HC5
 have HC6:=fun w' (k:Rs R (l.tail.tail.tail.tail) b w')=>k.refl.uid
 generalize (uidR l.tail.tail.tail.tail).2=m2 at *
 generalize (uidR l.tail.tail.tail.tail).1=u at *
 generalize fsT l=t0 at *
 generalize fsT l.tail.tail=t1 at *
 clear HE h H0
 unfold tkV at *
 go_enter Tryz.func36,Tryz.ntmps36
 go_wp2_with fail
 rw[←hV]
 refine HC0.mono ?_
 rintro _ w0 ⟨rfl,h0⟩
 have HK:Hid (Blk w0 b.heap.size #[.int .i64 0,.string ⟨#[]⟩,.string ⟨#[]⟩,.string ⟨#[]⟩] 25):=h0.blk HK0.out (by omega)
 have HH:Rs R l.tail b w0:=HV0.out.then h0
 clear HC0 hV h0 HK0
 have HD1:=HC1 w0 HH
 have HG1:Hid (Rs R _ b w0):=HH
 have HQ1:=HK
 clear HC1 HH HK
 go_wp2_with fail
 refine HD1.mono ?_
 rintro _ w1 ⟨rfl,h1⟩
 have HK:Hid (Blk w1 b.heap.size #[.int .i64 0,.string ⟨#[]⟩,.string ⟨#[]⟩,.string ⟨#[]⟩] 25):=h1.blk HQ1.out (by omega)
 have HH:=HG1.out.then h1
 clear HD1 HG1 HQ1 h1
 have HD2:=HC2 w1 HH
 have HG2:Hid (Rs R _ b w1):=HH
 have HQ2:=HK
 clear HC2 HH HK
 go_wp2_with fail
 refine HD2.mono ?_
 rintro _ w2 ⟨rfl,h2⟩
 have HK:Hid (Blk w2 b.heap.size #[.int .i64 0,.string ⟨#[]⟩,.string ⟨#[]⟩,.string ⟨#[]⟩] 25):=h2.blk HQ2.out (by omega)
 have HH:=HG2.out.then h2
 clear HD2 HG2 HQ2 h2
 have HD3:=HC3 w2 HH
 have HG3:Hid (Rs R _ b w2):=HH
 have HQ3:=HK
 clear HC3 HH HK
 go_wp2_with fail
 refine HD3.mono ?_
 rintro _ w3 ⟨rfl,h3⟩
 have HK:Hid (Blk w3 b.heap.size #[.int .i64 0,.string ⟨#[]⟩,.string ⟨#[]⟩,.string ⟨#[]⟩] 25):=h3.blk HQ3.out (by omega)
 have HH:=HG3.out.then h3
 clear HD3 HG3 HQ3 h3
 have HD4:=HC4 w3 HH
 have HG4:Hid (Rs R _ b w3):=HH
 have HQ4:=HK
 clear HC4 HH HK
 go_wp2_with fail
 refine HD4.mono ?_
 rintro _ w4 ⟨rfl,h4⟩
 have HK:Hid (Blk w4 b.heap.size #[.int .i64 0,.string ⟨#[]⟩,.string ⟨#[]⟩,.string ⟨#[]⟩] 25):=h4.blk HQ4.out (by omega)
 have HH:=HG4.out.then h4
 clear HD4 HG4 HQ4 h4
 have HD5:=HC5 w4 HH
 have HG5:Hid (Rs R _ b w4):=HH
 have HQ5:=HK
 clear HC5 HH HK
 go_wp2_with fail
 refine HD5.mono ?_
 rintro _ w5 ⟨rfl,h5⟩
 have HK:Hid (Blk w5 b.heap.size #[.int .i64 0,.string ⟨#[]⟩,.string ⟨#[]⟩,.string ⟨#[]⟩] 25):=h5.blk HQ5.out (by omega)
 have HH:=HG5.out.then h5
 clear HD5 HG5 HQ5 h5
 have HD6:=HC6 w5 HH
 have HG6:Hid (Rs R _ b w5):=HH
 have HQ6:=HK
 clear HC6 HH HK
 go_wp2_with fail
 refine HD6.mono ?_
 rintro _ w6 ⟨rfl,h6⟩
 have HK:Hid (Blk w6 b.heap.size #[.int .i64 0,.string ⟨#[]⟩,.string ⟨#[]⟩,.string ⟨#[]⟩] 25):=h6.blk HQ6.out (by omega)
 have HH:=HG6.out.then h6
 clear HD6 HG6 HQ6 h6
 have HHd:Hid (Rs R _ b w6):=HH
 clear HH
 have x0:w6.cell? ⟨b.heap.size,0,none⟩=some (.int .i64 0):=HK.out.cell 0
 have x1:w6.cell? ⟨b.heap.size,1,none⟩=some (.string ⟨#[]⟩):=HK.out.cell 1
 have x2:w6.cell? ⟨b.heap.size,2,none⟩=some (.string ⟨#[]⟩):=HK.out.cell 2
 have x3:w6.cell? ⟨b.heap.size,3,none⟩=some (.string ⟨#[]⟩):=HK.out.cell 3
 have fx0:=HK.out.free 0
 have fx1:=HK.out.free 1
 have fx2:=HK.out.free 2
 have fx3:=HK.out.free 3
 go_wp2
 obtain⟨z0,z1,z2,z3⟩:=cells4 HK.out (.int .i64 4) (.string t1.s) (.string u.t) (.string u.i)
 refine bodyPost_ret (v:=.agg #[.int .i64 4,.string t1.s,.string u.t,.string u.i]) (by simp[results,Tryz.results36,go_sem,z0,z1,z2,z3]) rfl ⟨rfl,?_⟩
 exact HHd.out.setF hR (Nat.le_refl _) _ _ _ _
theorem Rs.scope (h:Rs R l a b):
 Calls Tryz.prog 36 #[.pointer (some ⟨R,0,none⟩)] b fun e w'=>e= .returned (scoV (scR l.tail).1)∧Rs R (scR l.tail).2 b w':=by
 by_cases hq:(fsT l.tail).s=⟨#[61,61]⟩
 · exact h.sc_eq hq
 · by_cases hn:(fsT l.tail).s=⟨#[105,110]⟩
   · exact h.sc_in hq hn
   · by_cases hs:(fsT l.tail).s=⟨#[105,115]⟩
     · by_cases hi:(fsT l.tail.tail.tail).s=⟨#[105,110]⟩
       · exact h.sc_isin hq hn hs hi
       · exact h.sc_is hq hn hs hi
     · exact h.sc_none hq hn hs
end
structure AK0 (w:World)(a:List Nd)(p:Option Addr)(c:Nat):Prop where
 nl:NL w p a
 le:a.length≤c
 cm:c≤maxLen
theorem AK0.up {w w':World}{a:List Nd}{p:Option Addr}{c:Nat}(h:AK0 w a p c)(hb:Below w.heap.size w w'):AK0 w' a p c:=⟨h.nl.up hb,h.le,h.cm⟩
def KRet (w':World)(l:List Nd)(e:Ending):Prop:=∃q c',e= .returned (.slice q l.length c')∧AK0 w' l q c'
theorem one_newN {w W':World}{B:Nat}(x:Nd)(hx:x.wf)(hB:B=w.heap.size)(hb:Below (w.alloc (.cells #[.int .i64 x.op,.int .i64 x.n,.string x.s,.string x.t] 97)).heap.size (w.alloc (.cells #[.int .i64 x.op,.int .i64 x.n,.string x.s,.string x.t] 97)) W'):KRet W' [x] (.returned (.slice (some ⟨B,0,none⟩) 1 1)):=by
 have hk:=(Blk.new w (B:=B) #[.int .i64 x.op,.int .i64 x.n,.string x.s,.string x.t] 97 hB).up hb
 refine⟨_,_,rfl,⟨.inr ⟨B,0,rfl,hk.lt,fun i z hz=>?_⟩,Nat.le_refl _,by unfold maxLen;omega⟩⟩
 cases i with
 | succ i=>simp at hz
 | zero=>
   simp only[List.getElem?_cons_zero,Option.some.injEq]at hz
   subst hz
   exact⟨hk.cell 0,hk.cell 1,hk.cell 2,hk.cell 3,hx⟩
theorem lf_wf (o:Int)(h:o≤100):(lfN o).wf:=by
 simp[lfN,e0,Nd.wf,maxLen]
 exact Nat.zero_le _
theorem append_nodesG (w:World){ops:Array Oper}{rest:List Oper}{o:Oper}{a:Act}{Q:Exit→Act→World→Prop}(hgd:o.guard=none)(s x:Operand)
 (ho:o.op= .call { callee:=.builtin .append,args:= #[s,x],argTypes:= #[59,59] })
 (base:Nat) (v:Value) (L:List Nd) (hs:a.eval s=v) (hown:ON w base v L) (M:List Nd) (n:Nat) (hn:M.length=n) (b off c:Nat) (hN:NL w (some ⟨b,off,none⟩) M)
 (hx:a.eval x= .slice (some ⟨b,off,none⟩) n c) (hlen:L.length+M.length≤1099511627776) (hbase:base≤w.heap.size)
 (h:∀v' w',ON w' base v' (L++M)→w.grownBy w' v.ownBlock→(v'.ownBlock=v.ownBlock∨v'.ownBlock=some w.heap.size)→wpList Tryz.prog ops Q rest (a.put o.dst v') w'):wpList Tryz.prog ops Q (o::rest) a w:=by
 subst hn
 obtain⟨i0,hi,hz0,hz1,hz2⟩:=info_parts Tryz.infoNode
 refine wpList_append_own_at _ hgd s x 59 ho base 97 i0 _ 4 48 Tryz.underlying59 hi hz0 hz1 hz2 rfl (by decide) v L.length (ncells L) hs hown.1 ⟨b,off,none⟩ M.length c (ncells M) hx (ncells_length M) ?_ (ncells_one _) (by unfold maxLen;omega) (by omega) hbase ?_
 · intro j u hu
   have hadd:(⟨b,off,none⟩:Addr).add j=⟨b,off+j,none⟩:=by unfold Addr.add;split<;>simp_all
   rw[hadd];exact hN.cells j u hu
 · intro v' w' h1 h2 _ h4
   refine h v' w' ⟨?_,fun x hx=>?_⟩ h2 h4
   · rw[ncells_append,List.length_append];exact h1
   · rcases List.mem_append.1 hx with hx | hx
     · exact hown.2 x hx
     · exact hN.wfs x hx
theorem NL.keep {S:Nat→Prop}{w w':World}{b off:Nat}{L:List Nd}(h:NL w (some ⟨b,off,none⟩) L)(k:Keep S w w')(hS:¬S b):NL w' (some ⟨b,off,none⟩) L:=by
 rcases h with h | ⟨b',off',h1,h2,h3⟩
 · exact .inl h
 · cases h1
   refine .inr ⟨b,off,rfl,Nat.lt_of_lt_of_le h2 k.size,fun i x hx=>?_⟩
   have q:∀o,w'.cell? ⟨b,o,none⟩=w.cell? ⟨b,o,none⟩:=fun o=>k.cell (p:=⟨b,o,none⟩) h2 hS
   obtain⟨a1,a2,a3,a4,a5⟩:=h3 i x hx
   exact⟨(q _).trans a1,(q _).trans a2,(q _).trans a3,(q _).trans a4,a5⟩
theorem keep_grown {w w':World}{r:Option Nat}(h:w.grownBy w' r):Keep (fun a=>r=some a) w w':=⟨h.os,h.tape,h.output,h.size,fun a ha hn=>h.block a ha (fun e=>hn e.symm)⟩
theorem ON.emptyK (w:World)(base:Nat):ON w base (.slice none 0 0) []:=⟨World.ownsRow_nil _ _ _ _,fun x hx=>by cases hx⟩
theorem ON.cap {w:World}{base:Nat}{q:Option Addr}{n c:Nat}{L:List Nd}(h:ON w base (.slice q n c) L):L.length≤c∧c≤maxLen:=by
 rcases h.1.2 with⟨e,h0⟩ | ⟨g,cap,cur,e,_,_,h2,h3,_⟩
 · cases e;exact⟨by omega,Nat.zero_le _⟩
 · cases e;exact⟨h2,h3⟩
theorem ON.nl {w:World}{base:Nat}{q:Option Addr}{c:Nat}{L:List Nd}(h:ON w base (.slice q L.length c) L):NL w q L:=by
 obtain⟨q',c',e,h1,_⟩:=NL.of_row h.2 h.1
 cases e
 exact h1.1
theorem Typed.stays {w w':World}{b:Nat}{f:TypeId}(h:Typed w b f)(k:w'.heap[b]? =w.heap[b]?):Typed w' b f:=by
 obtain⟨cur,fr,h1⟩:=h
 exact⟨cur,fr,k.trans h1⟩
theorem AK0.keepS {S:Nat→Prop}{w w':World}{L:List Nd}{q:Option Addr}{c:Nat}(h:AK0 w L q c)(k:Keep S w w')(hq:∀b o,q=some ⟨b,o,none⟩→¬S b):AK0 w' L q c:=by
 refine⟨?_,h.le,h.cm⟩
 rcases h.nl with e | ⟨b,o,e,_⟩
 · exact .inl e
 · subst e
   exact NL.keep h.nl k (hq b o rfl)
def CdLT (w:World)(p:Option Addr)(cs:List Cnd):Prop:=
 cs=[]∨∃b off,p=some ⟨b,off,none⟩∧Typed w b 61∧∀i c,cs[i]? =some c→∃pe ce,AK0 w c.ex pe ce∧(∀b' o,pe=some ⟨b',o,none⟩→Typed w b' 97)∧
  w.cell? ⟨b,off+i*2,none⟩=some (.bool c.un)∧w.cell? ⟨b,off+i*2+1,none⟩=some (.slice pe c.ex.length ce)
theorem CdLT.cdl {w:World}{p:Option Addr}{cs:List Cnd}(h:CdLT w p cs):CdL w p cs:=by
 rcases h with h | ⟨b,off,h1,h2,h3⟩
 · exact .inl h
 · refine .inr ⟨b,off,h1,h2.lt,fun i c hc=>?_⟩
   obtain⟨pe,ce,g1,_,g3,g4⟩:=h3 i c hc
   exact⟨pe,ce,⟨g1.nl,g1.le,g1.cm⟩,g3,g4⟩
theorem CdLT.keep {S:Nat→Prop}{w w':World}{p:Option Addr}{cs:List Cnd}(h:CdLT w p cs)(k:Keep S w w')(h1:∀g,S g→¬Typed w g 61)(h2:∀g,S g→¬Typed w g 97):CdLT w' p cs:=by
 rcases h with h | ⟨b,off,e1,e2,e3⟩
 · exact .inl h
 · have hb:¬S b:=fun hs=>h1 b hs e2
   refine .inr ⟨b,off,e1,e2.stays (k.block b e2.lt hb),fun i c hc=>?_⟩
   obtain⟨pe,ce,g1,g2,g3,g4⟩:=e3 i c hc
   have q:∀o,w'.cell? ⟨b,o,none⟩=w.cell? ⟨b,o,none⟩:=fun o=>k.cell (p:=⟨b,o,none⟩) e2.lt hb
   exact⟨pe,ce,g1.keepS k (fun b' o e hs=>h2 b' hs (g2 b' o e)),fun b' o e=>(g2 b' o e).stays (k.block b' (g2 b' o e).lt (fun hs=>h2 b' hs (g2 b' o e))),(q _).trans g3,(q _).trans g4⟩
theorem CdLT.up {w w':World}{p:Option Addr}{cs:List Cnd}(h:CdLT w p cs)(k:Below w.heap.size w w'):CdLT w' p cs:=
 h.keep (S:=fun _=>False) ⟨k.os,k.tape,k.output,k.size,fun a ha _=>k.block a ha⟩ (fun _ e=>e.elim) (fun _ e=>e.elim)
theorem pisName_any (s:ByteArray)(w:World)(hs:s.size≤maxLen):
 Calls Tryz.prog 67 #[.string s] w fun e w'=>e= .returned (.bool (okN s))∧Below w.heap.size w w':=by
 have HC:=fun w=>check_any s w hs
 by_cases h:nfault s.data.toList=0
 · have HR:Hid (okN s=true):=by show _=_;unfold okN;rw[h];rfl
   simp only[eV_nil h]at HC
   clear h
   go_enter Tryz.func67,Tryz.ntmps67
   go_wp2_with fail
   refine(HC _).mono ?_
   rintro _ w1 ⟨rfl,rfl⟩
   go_wp2
   go_ret
   exact⟨by rw[HR.out];rfl,kqx⟩
 · have HR:Hid (okN s=false):=by show _=_;unfold okN;rw[beq_eq_false_iff_ne];exact h
   simp only[eV_not h]at HC
   generalize nfault s.data.toList=n at *
   clear h
   go_enter Tryz.func67,Tryz.ntmps67
   go_wp2_with fail
   refine(HC _).mono ?_
   rintro _ w1 ⟨rfl,rfl⟩
   go_wp2
   go_ret
   exact⟨by rw[HR.out];rfl,kqx⟩
theorem pisUid_any (u:Ui)(w:World)(hu:UOk u):
 Calls Tryz.prog 66 #[.agg #[.string u.t,.string u.i]] w fun e w'=>e= .returned (.bool (okU u))∧Below w.heap.size w w':=by
 obtain⟨V,hV⟩:∃V,V=w.alloc (.cells #[.string u.t,.string u.i] 23):=⟨_,rfl⟩
 have hbV:Below w.heap.size w V:=by rw[hV];exact kqx
 have HC:=write_any u.t u.i V hu.1 hu.2
 by_cases h:uf u=0
 · have HR:Hid (okU u=true):=by show _=_;unfold okU;rw[h];rfl
   have h2:ufault u.t.data.toList u.i.data.toList=0:=h
   rw[eV_nil h2]at HC
   clear h h2 hu
   go_enter Tryz.func66,Tryz.ntmps66
   go_wp2_with fail
   rw[←hV]
   refine HC.mono ?_
   rintro _ w1 ⟨q,rfl,hb1⟩
   clear hV
   go_wp2
   go_ret
   exact⟨by rw[HR.out];rfl,kqt hbV hb1⟩
 · have HR:Hid (okU u=false):=by show _=_;unfold okU;rw[beq_eq_false_iff_ne];exact h
   have h2:ufault u.t.data.toList u.i.data.toList≠0:=h
   rw[eV_not h2]at HC
   generalize ufault u.t.data.toList u.i.data.toList=n at *
   clear h h2 hu
   go_enter Tryz.func66,Tryz.ntmps66
   go_wp2_with fail
   rw[←hV]
   refine HC.mono ?_
   rintro _ w1 ⟨q,rfl,hb1⟩
   clear hV
   go_wp2
   go_ret
   exact⟨by rw[HR.out];rfl,kqt hbV hb1⟩
theorem sidesOf_any (p:Po)(pc:Option Addr)(cc:Nat)(w:World):
 Calls Tryz.prog 39 #[poV p pc cc] w fun e w'=>(∃b,e= .returned (.slice (some ⟨b,0,none⟩) 3 3)∧Blk w' b (sidesC p) 87)∧Below w.heap.size w w':=by
 unfold poV
 go_enter Tryz.func39,Tryz.ntmps39
 go_wp2
 go_ret
 refine⟨⟨_,rfl,?_⟩,?_⟩
 · exact Blk.new _ _ _ (by simp)
 · exact kqx
end Go.Proofs.YtjkepjbfgeldnaaGreatDoor
