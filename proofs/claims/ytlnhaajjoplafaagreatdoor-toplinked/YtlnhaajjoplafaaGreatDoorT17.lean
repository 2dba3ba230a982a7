import Derived.Test.YtlnhaajjoplafaaGreatDoorT16
import Derived.Shelf.SlIter.Collect
import Derived.Test.YtlnhaajjoplafaaGreatDoorT15
set_option linter.unusedVariables false
set_option maxHeartbeats 12000000
namespace Go.Proofs.YtlnhaajjoplafaaGreatDoor
open Go.RowKit Go.Maps Go.WideMaps Go.Sort Go.Shelf
set_option linter.unusedSimpArgs false
def uE (u:Ui):Value:=.agg #[.string u.t,.string u.i]
def UCame (L:List Ui)(left:Lit→Bool)(ss:List Ui):Prop:=ss.Nodup∧∀x∈ss,x∈L∧left (klit x)=false
def ULeft (L:List Ui)(left:Lit→Bool)(ss:List Ui):Prop:=∀x∈L,x∈ss∨left (klit x)=true
set_option maxRecDepth 100000 in
theorem ukeys1_in (F:Fence)(n:Nat)(hF:F.fn 203)(hro:F.round=none)(hn:1≤n)(l Bm b:Nat)(L:List Ui)(J:List Ui→World→Prop)
 (hY:∀pre x W,J pre W→pre.length<L.length→YieldAt F (n-1) Tryz.prog l #[uE x] W fun e W'=>e= .returned (.bool true)∧J (pre++[x]) W'∧KeepsWalks W W')
 (W:World) (hJ:AbidesFrom W.heap.size J) (hm:W.cell? ⟨Bm,0,none⟩=some (.map (some b))) (hset:USet W b L) (h0:J [] W):
 CallsIn F n Tryz.prog 203 #[.func (.yield l) #[] #[],.pointer (some ⟨Bm,0,none⟩)] W fun e W'=>(∃v,e= .returned v)∧∃ss:List Ui,(ss.Nodup∧∀x,x∈ss↔x∈L)∧J ss W':=by
 obtain⟨D,hown,h2,h3,h4,h5,h6⟩:=hset
 have H3:Hid (∀_,_):=h3
 have H4:Hid (∀_,_):=h4
 have H2:Hid (∀_,_):=h2
 have H6:Hid (_=_):=h6
 clear h2 h3 h4 h6
 refine callsIn_of_wp Tryz.func203 rfl hF ?_ hro
 simp only[Tryz.ntmps203,List.size_toArray,List.length_cons,List.length_nil,Nat.reduceAdd,Nat.reduceSub,Array.replicate_succ,Array.replicate_zero,List.push_toArray,List.append_toArray,List.nil_append,List.cons_append]
 gi_wp2_with (first
  | (gi_at_range;refine wpListIn_range_own _ rfl _ 100 rfl 24 120 uid_law Tryz.underlying100 _ b L.length _ rfl hown ?_;intro w0 hrg0 hg0 hs0)
  | gi_in)
 go_frame
 gi_loopw [3] (fun _ wr=>∃(left:Lit→Bool) (cnt:Nat) (ss:List Ui),wr.ranges Tryz.prog 24 unitElem b W.heap.size L.length D left cnt∧ss.length+cnt≤L.length∧Hid (UCame L left ss)∧Hid (ULeft L left ss)∧Hid (∀kl,left kl=true→Maps.has D kl=true)∧J ss wr)
  (fun _ wr=>wr.rangeLeft b W.heap.size)
 case atStart=>
  exact⟨_,_,[],hrg0,by rw[H6.out];simp,⟨List.nodup_nil,fun x hx=>(by cases hx)⟩,fun x hx=>.inr ((H2.out x (H4.out x hx)).2 hx),fun kl h=>h,hJ [] W w0 none h0 hg0 (fun r e=>by cases e)⟩
 case round=>
  obtain⟨left,cnt,ss,hrg,hcs,HC,HE,HH,hJs⟩:=hrel
  gi_wp2_with (first
   | (gi_at_next;refine wpListIn_next_ranges _ rfl _ rfl 24 uid_law unitElem (fun x:Ui=>.agg #[.string x.t,.string x.i]) id (fun key kl hk=>by obtain⟨x,hx,_⟩:=keyOf_uid_inv hk;exact⟨x,hx⟩) (fun v _ _=>⟨v,rfl⟩) b W.heap.size L.length _ _ _ rfl hrg ?_ ?_)
   | gi_in)
  · intro hc0 hl0
    gi_wp2
    go_end0
    refine⟨⟨_,rfl⟩,ss,⟨HC.out.1,fun x=>⟨fun hx=>(HC.out.2 x hx).1,fun hx=>?_⟩⟩,hJs⟩
    rcases HE.out x hx with h | h
    · exact h
    · rw[hl0]at h;cases h
  · intro x c kl yd yp w2 cnt2 hkey hlk hv hat hrg2 hlt hg2 hs2 hen
    obtain⟨x',ex,hxok,rfl⟩:=keyOf_uid_inv hkey
    obtain rfl:x=x':=uV_inj ex
    have hJ2:J ss w2:=hJ ss wr w2 (some W.heap.size) hJs hg2 (fun r e=>by cases e;exact⟨Nat.le_refl _,hrg.iter_walk⟩)
    have HXL:Hid (x∈L):=(H2.out x hxok).1 (HH.out _ hlk)
    have HLK:Hid (left (klit x)=true):=hlk
    clear hs2 ex hkey hv hat hlk
    have hJ3:J ss (w2.alloc (.cells #[.string x.t,.string x.i] 24)):=hJ ss w2 _ none hJ2 (World.grownBy_alloc w2 _ none) (fun r e=>by cases e)
    obtain⟨fn,tmps,assign,body,hy,hR⟩:=hY ss x _ hJ3 (by omega)
    unfold uE at hy
    gi_wp2
    refine hR.mono ?_
    rintro e W3 ⟨rfl,hJ4,hk3⟩
    gi_wp2
    have hrg3:=(hrg2.alloc (.cells #[.string x.t,.string x.i] 24)).of_walks hk3
    have hnew:x∉ss:=fun hx=>by have:=(HC.out.2 x hx).2;rw[HLK.out]at this;cases this
    go_roundw
    case rel=>
     refine⟨_,cnt2,ss++[x],hrg3,by simp;omega,⟨?_,fun y hy=>?_⟩,fun y hy=>?_,fun kl h=>HH.out kl (by simp at h;exact h.1),hJ4⟩
     · rw[List.nodup_append]
       exact⟨HC.out.1,by simp,fun a ha b hb e=>by rw[List.mem_singleton.1 hb]at e;rw[e]at ha;exact hnew ha⟩
     · rcases List.mem_append.1 hy with hy | hy
       · obtain⟨k1,k2⟩:=HC.out.2 y hy
         exact⟨k1,by simp[k2]⟩
       · rw[List.mem_singleton.1 hy]
         exact⟨HXL.out,by simp[WideAt.sameKey_self (klit_key x)]⟩
     · by_cases hyx:y=x
       · exact .inl (by simp[hyx])
       · rcases HE.out y hy with h | h
         · exact .inl (by simp[h])
         · refine .inr ?_
           show(left (klit y) && !(klit y).sameKey (klit x))=true
           rw[h,sameKey_ne (fun q=>hyx (klit_inj (H4.out y hy) hxok q))]
           rfl
    case measure=>rw[hrg3.left_eq,hrg.left_eq];exact hlt
theorem ukeys_gives (F:Fence)(n:Nat)(hF:F.fn 203)(hro:F.round=none)(hn:1≤n)(Bm b:Nat)(L:List Ui)(w:World)(hBm:Bm<w.heap.size)
 (hm:w.cell? ⟨Bm,0,none⟩=some (.map (some b))) (hset:USet w b L):
 SeqGives F n Tryz.prog 203 #[.pointer (some ⟨Bm,0,none⟩)] uE (fun ss=>ss.Nodup∧∀x,x∈ss↔x∈L) L.length w:=fun l J W hW hJ hY h0=>
 ukeys1_in F n hF hro hn l Bm b L J hY W hJ ((hW.cell (p:=⟨Bm,0,none⟩) hBm).trans hm) (hset.up hW) h0
theorem ukeys_any (mb:Option Nat)(w:World):
 Calls Tryz.prog 170 #[.map mb] w fun e w'=>e= .returned (.func (.func 203) #[] #[.pointer (some ⟨w.heap.size,0,none⟩)])∧w'=w.alloc (.cells #[.map mb] 100):=by
 go_enter Tryz.func170,Tryz.ntmps170
 go_wp2_with fail
 go_ret
 exact⟨rfl,rfl⟩
def apAssignU:Code:=.region 2 #[{ dst:=some 5,op:=.alloc 24,type:=0,pos:= "iter.go:51", after:= #[],guard:=none },{ dst:=none,op:=.store 24 (.tmp 5) (.tmp 7),type:=0,pos:= "iter.go:51", after:= #[{ on:=0,ground:=.data },{ on:=0,ground:=.phase }],guard:=none }] false
def apBodyU:Code:=.block 1 (.region 3 #[{ dst:=some 8,op:=.load 87 (.tmp 2),type:=87,pos:= "iter.go:52", after:= #[],guard:=none },
 { dst:=some 9,op:=.load 24 (.tmp 5),type:=24,pos:= "iter.go:52", after:= #[],guard:=none },
 { dst:=some 10,op:=.buildSlice 87 1 #[(0,.tmp 9)],type:=87,pos:= "iter.go:52", after:= #[{ on:=1,ground:=.data }],guard:=none },
 { dst:=some 11,op:=.call { callee:=.builtin .append,args:= #[.tmp 8,.tmp 10],argTypes:= #[87,87] },type:=87,pos:= "iter.go:52", after:= #[{ on:=0,ground:=.data },{ on:=2,ground:=.data }],guard:=none },
 { dst:=none,op:=.store 87 (.tmp 2) (.tmp 11),type:=0,pos:= "iter.go:52", after:= #[{ on:=3,ground:=.data },{ on:=3,ground:=.chain },{ on:=0,ground:=.phase },{ on:=1,ground:=.phase },{ on:=2,ground:=.phase },{ on:=3,ground:=.phase }],guard:=none }] false)
def apRecU (fn:FuncId)(sv:Value)(Bs D:Nat)(st:LoopState)(pend:Option Code):Loop:=
 { state:=st,pending:=pend,fn,tmps:= #[.slice none 0 0,sv,.pointer (some ⟨Bs,0,none⟩),undef,.slice none 0 0,undef,sv,undef,undef,undef,undef,undef,undef],params:= #[7],assign:=apAssignU,body:=apBodyU,defers:=D }
structure ApAtU (w0:World)(fn:FuncId)(sv:Value)(Bs l D:Nat)(ss:List Ui)(W:World):Prop where
 box:∃v,W.heap[Bs]? =some (.cells #[v] 87 (0,0))∧OU W w0.heap.size v ss∧(v= .slice none 0 0↔ss=[])
 L:W.heap[l]? =some (.loop (apRecU fn sv Bs D .ready none))
 K:W.heap[D]? =some (.deferred (some []))
 below:Below w0.heap.size w0 W
theorem apU_abides (w0:World)(fn:FuncId)(sv:Value)(Bs l D B:Nat)(hB:w0.heap.size≤B):AbidesFrom B (ApAtU w0 fn sv Bs l D):=fun s W W' row h hg hrow=>by
 have hrow':∀r,row=some r→∃o:Obj,W.heap[r]? =some o∧o.isWalk=true:=fun r e=>(hrow r e).2
 obtain⟨v,hv,hr,hn⟩:=h.box
 exact⟨⟨v,(grownBy_keeps hg hrow' hv rfl).trans hv,ownsRow_abides_a hr hg hrow',hn⟩,(grownBy_keeps hg hrow' h.L rfl).trans h.L,(grownBy_keeps hg hrow' h.K rfl).trans h.K,
  h.below.grown hg h.below.size (fun k e=>Nat.le_trans hB (hrow k e).1)⟩
theorem types_apart:(87:TypeId)≠24:=by decide
theorem cells_two_new (w:World)(x:Ui)(t:TypeId):∀j u,[Value.string x.t,Value.string x.i][j]? =some u→(w.alloc (.cells #[.string x.t,.string x.i] t)).cell? ((⟨w.heap.size,0,none⟩:Addr).add j)=some u:=by
 intro j u hu
 have hadd:(⟨w.heap.size,0,none⟩:Addr).add j=⟨w.heap.size,j,none⟩:=by unfold Addr.add;split<;>simp_all
 rw[hadd]
 unfold World.cell?
 rw[(MapKept.heap_alloc w _).1]
 rcases j with _ | _ | j
 · exact hu
 · exact hu
 · simp at hu
set_option maxRecDepth 100000 in
theorem apYieldU (F:Fence)(m:Nat)(w0:World)(fn:FuncId)(hfn:F.fn fn)(sv:Value)(Bs l D:Nat)(hBl:Bs≠l)(hDl:D≠l)(hDB:D≠Bs)(h0B:w0.heap.size≤Bs)(h0l:w0.heap.size≤l)
 (N:Nat) (hN:N≤1000) (ss:List Ui) (x:Ui) (W:World) (h:ApAtU w0 fn sv Bs l D ss W) (hlen:ss.length<N):
 YieldAt F m Tryz.prog l #[uE x] W fun e W'=>e= .returned (.bool true)∧ApAtU w0 fn sv Bs l D (ss++[x]) W'∧KeepsWalks W W':=by
 have hne:=types_apart
 obtain⟨i0,hi,hz0,hz1,hz2⟩:=info_parts Tryz.infoUid
 obtain⟨v,hv,hrow,_⟩:=h.box
 refine⟨fn, #[.slice none 0 0,sv,.pointer (some ⟨Bs,0,none⟩),undef,.slice none 0 0,undef,sv,uE x,undef,undef,undef,undef,undef],apAssignU,apBodyU,by simpa[apRecU]using run_yield (P:=Tryz.prog) (args:= #[uE x]) h.L rfl,roundIn_of_wpIn hfn ?_⟩
 obtain⟨W1,hW1⟩:∃W1,W.alloc (.cells #[.string x.t,.string x.i] 24)=W1:=⟨_,rfl⟩
 have hold1:∀k,k<W.heap.size→W1.heap[k]? =W.heap[k]? :=fun k hk=>by rw[←hW1];exact Below.heap_alloc _ _ k hk
 have hx1:W1.heap[W.heap.size]? =some (.cells #[.string x.t,.string x.i] 24 (0,0)):=by rw[←hW1];exact(MapKept.heap_alloc W _).1
 have hv1:W1.heap[Bs]? =some (.cells #[v] 87 (0,0)):=(hold1 Bs (Array.getElem?_eq_some_iff.1 hv).1).trans hv
 have hK1:W1.heap[D]? =some (.deferred (some [])):=(hold1 D (Array.getElem?_eq_some_iff.1 h.K).1).trans h.K
 have hL1:W1.heap[l]? =some (.loop (apRecU fn sv Bs D .ready none)):=(hold1 l (Array.getElem?_eq_some_iff.1 h.L).1).trans h.L
 have hrow1:OU W1 w0.heap.size v ss:=by rw[←hW1];exact World.ownsRow.alloc hrow _
 have hb1:Below w0.heap.size w0 W1:=by rw[←hW1];exact h.below.alloc h.below.size _
 have hk1:KeepsWalks W W1:=by rw[←hW1];exact KeepsWalks.alloc _ _
 have hl:l<W1.heap.size:=(Array.getElem?_eq_some_iff.1 hL1).1
 have hlx:W.heap.size≠l:=fun e=>by rw[e,hL1]at hx1;cases hx1
 have hbr:=run_beginRound (P:=Tryz.prog) hL1 rfl
 obtain⟨W2,hW2⟩:∃W2,W1.putObj l (.loop { apRecU fn sv Bs D .ready none with state:=.busy })=W2:=⟨_,rfl⟩
 rw[hW2]at hbr
 have hg2:W1.grownBy W2 (some l):=by rw[←hW2];exact grownBy_putObj_a _ _ _
 have hk2:KeepsWalks W W2:=by rw[←hW2];exact hk1.trans (KeepsWalks.putObj _ hL1 rfl)
 have hv2:W2.heap[Bs]? =some (.cells #[v] 87 (0,0)):=by rw[←hW2];exact(World.putObj_heap_other hBl).trans hv1
 have hK2:W2.heap[D]? =some (.deferred (some [])):=by rw[←hW2];exact(World.putObj_heap_other hDl).trans hK1
 have hL2:W2.heap[l]? =some (.loop { apRecU fn sv Bs D .ready none with state:=.busy }):=by rw[←hW2];exact World.putObj_heap_same hl
 have hx2:W2.heap[W.heap.size]? =some (.cells #[.string x.t,.string x.i] 24 (0,0)):=by rw[←hW2];exact(World.putObj_heap_other hlx).trans hx1
 have hrow2:OU W2 w0.heap.size v ss:=World.ownsRow.kept hrow1 hg2 (ownsRow_ne_a hrow1 hL1 (fun cur e=>by cases e))
 have hb2:Below w0.heap.size w0 W2:=hb1.grown hg2 hb1.size (fun k e=>by cases e;exact h0l)
 have x0:W2.cell? ⟨W.heap.size,0,none⟩=some (.string x.t):=by simp[World.cell?, hx2]
 have x1:W2.cell? ⟨W.heap.size,1,none⟩=some (.string x.i):=by simp[World.cell?, hx2]
 obtain⟨hc2,hf2⟩:=cell_of_box_a hv2
 have hBlt:Bs<W2.heap.size:=(Array.getElem?_eq_some_iff.1 hv2).1
 have hl2:l<W2.heap.size:=(Array.getElem?_eq_some_iff.1 hL2).1
 have hDlt:D<W2.heap.size:=(Array.getElem?_eq_some_iff.1 hK2).1
 have ne_of:∀ {j:Nat} {o:Obj},W2.heap[j]? =some o→(∀cur,o≠ .cells cur 24 (0,0))→some j≠v.ownBlock:=fun hj hno=>by
  rcases ownsRow_ne_a hrow2 hj hno with e | e
  · rw[e];simp
  · exact fun e'=>e e'.symm
 clear hW2 hg2 hold1 hx1 hv1 hK1 hL1 hx2
 unfold apAssignU
 unfold uE
 gi_wp2_with gi_round_op_a
 clear hbr hW1
 unfold apBodyU
 gi_wp2_with (first
  | (gi_at_builtin;refine wpListIn_append_own _ rfl _ _ 87 rfl w0.heap.size 24 i0 _ 2 32 Tryz.underlying87 hi hz0 hz1 hz2 rfl (by decide) _ _ _ rfl (World.ownsRow.alloc hrow2 _) ⟨W2.heap.size,0,none⟩ 1 1 [.string x.t,.string x.i] rfl rfl (cells_two_new _ _ _) (by simp[Value.oneCell']) (by unfold maxLen;omega) (by omega) (by have:=hb2.size;simp;omega) ?_;intro v' w3 hown' hg3 hnil3
     have hv3:w3.heap[Bs]? =some (.cells #[v] 87 (0,0)):=(hg3.block Bs (by simp;omega) (ne_of hv2 (fun cur e=>by first | cases e | exact hne (Obj.cells.inj e).2.1))).trans ((Below.heap_alloc _ _ Bs hBlt).trans hv2)
     obtain⟨hc3,hf3⟩:=cell_of_box_a hv3
     obtain⟨g',cap',cur',rfl,hbase',hgb',hr1,hr2,hr3,hr4⟩:∃g' cap' cur',v'= .slice (some ⟨g',0,none⟩) (ss.length+1) cap'∧w0.heap.size≤g'∧w3.heap[g']? =some (.cells cur' 24 (0,0))∧ss.length+1≤cap'∧cap'≤maxLen∧cur'.size=cap'*2∧cur'.toList.take ((ss.length+1)*2)=ucells ss++[.string x.t,.string x.i]:=by
      rcases hown'.2 with⟨_,h0⟩ | h'
      · exact absurd h0 (by omega)
      · exact h'
     go_frame)
  | gi_round_op_a)
 have hg3':(W2.alloc (.cells #[.string x.t,.string x.i] 24)).grownBy w3 v.ownBlock:=hg3
 have hL3:w3.heap[l]? =some (.loop { apRecU fn sv Bs D .ready none with state:=.busy }):=(hg3'.block l (by simp;omega) (ne_of hL2 (fun cur e=>by cases e))).trans ((Below.heap_alloc _ _ l hl2).trans hL2)
 have hK3:w3.heap[D]? =some (.deferred (some [])):=(hg3'.block D (by simp;omega) (ne_of hK2 (fun cur e=>by cases e))).trans ((Below.heap_alloc _ _ D hDlt).trans hK2)
 obtain⟨w4,hw4⟩:∃w4,w3.setCell ⟨Bs,0,none⟩ (.slice (some ⟨g',0,none⟩) (ss.length+1) cap')=w4:=⟨_,rfl⟩
 rw[hw4]
 have hg4:w3.grownBy w4 (some Bs):=by rw[←hw4];exact grownBy_setCell0_a _ _ _
 have hv4:w4.heap[Bs]? =some (.cells #[.slice (some ⟨g',0,none⟩) (ss.length+1) cap'] 87 (0,0)):=by rw[←hw4];exact heap_setCell_box_a _ hv3
 have hL4:w4.heap[l]? =some (.loop { apRecU fn sv Bs D .ready none with state:=.busy }):=(hg4.block l (Array.getElem?_eq_some_iff.1 hL3).1 (fun e=>hBl (by cases e;rfl))).trans hL3
 have hK4:w4.heap[D]? =some (.deferred (some [])):=(hg4.block D (Array.getElem?_eq_some_iff.1 hK3).1 (fun e=>hDB (by cases e;rfl))).trans hK3
 have hrow4:=hown'.kept hg4 (ownsRow_ne_a hown' hv3 (fun cur e=>by first | cases e | exact hne (Obj.cells.inj e).2.1))
 have hl4:l<w4.heap.size:=(Array.getElem?_eq_some_iff.1 hL4).1
 have hb3:Below w0.heap.size w0 w3:=(hb2.alloc hb2.size _).grown hg3' (by have:=hb2.size;simp;omega) (fun k e=>hrow2.own k e)
 have hb4:Below w0.heap.size w0 w4:=hb3.grown hg4 hb3.size (fun k e=>by cases e;exact h0B)
 have hk4:KeepsWalks W w4:=((hk2.trans (KeepsWalks.alloc _ _)).trans (KeepsWalks.of_grownBy hg3' (ownsRow_not_walk_a (World.ownsRow.alloc hrow2 _)))).trans (by rw[←hw4];exact KeepsWalks.setCell _ _ _)
 clear hw4
 refine⟨_,_,run_endRound none hL4,rfl,⟨⟨_,(World.putObj_heap_other hBl).trans hv4,?_,by simp⟩,World.putObj_heap_same hl4,(World.putObj_heap_other hDl).trans hK4,hb4.grown (grownBy_putObj_a _ _ _) hb4.size (fun k e=>by cases e;exact h0l)⟩,hk4.trans (KeepsWalks.putObj _ hL4 rfl)⟩
 have:=hrow4.kept (grownBy_putObj_a w4 l (.loop { { apRecU fn sv Bs D .ready none with state:=.busy } with state:=if (none:Option Code).isNone then .ready else .done,pending:=none })) (ownsRow_ne_a hrow4 hL4 (fun cur e=>by cases e))
 unfold OU
 rw[ucells_append,List.length_append]
 exact this
set_option maxRecDepth 100000 in
theorem appendSeqU_in (F:Fence)(n:Nat)(h11:F.fn 213)(hro:F.round=none)(hn:2≤n)(g:Nat)(lb:Array Value)(hFg:F.fn g)(eg:∀args w,(callFunc g args).run Tryz.prog w= .ok (.enter g args) w)
 (S:List Ui→Prop) (N:Nat) (hN:N≤1000) (w:World) (hseq:SeqGives F (n-1) Tryz.prog g lb uE S N w):
 CallsIn F n Tryz.prog 213 #[.slice none 0 0,.func (.func g) #[] lb] w fun e w'=>∃(v:Value) (ss:List Ui),e= .returned v∧S ss∧OU w' w.heap.size v ss∧(v= .slice none 0 0↔ss=[])∧Below w.heap.size w w':=by
 have h1:1≤n:=by omega
 have hne:=types_apart
 refine callsIn_of_wp_marks Tryz.func213 rfl h11 ?_ hro
 simp only[Tryz.ntmps213,List.size_toArray,List.length_cons,List.length_nil,Nat.reduceAdd,Nat.reduceSub,Array.replicate_succ,Array.replicate_zero,List.push_toArray,List.append_toArray,List.nil_append,List.cons_append]
 gi_wp2
 refine wpIn_rangeFunc ?_
 intro fn hfn
 rw[hro]
 obtain⟨W0,hW0⟩:∃W0,w.alloc (.cells #[.slice none 0 0] 87)=W0:=⟨_,rfl⟩
 have hs0:W0.heap.size=w.heap.size+1:=by rw[←hW0];simp
 have hv0:W0.heap[w.heap.size]? =some (.cells #[.slice none 0 0] 87 (0,0)):=by rw[←hW0];exact World.alloc_heap_new w _
 have hb0:Below w.heap.size w W0:=by rw[←hW0];exact(Below.refl _ w).alloc (Nat.le_refl _) _
 rw[hW0]
 obtain⟨W1,hW1⟩:∃W1,(W0.alloc (.deferred (some []))).alloc (.loop (apRecU fn (.func (.func g) #[] lb) w.heap.size W0.heap.size .ready none))=W1:=⟨_,rfl⟩
 have hold:∀k,k<W0.heap.size→W1.heap[k]? =W0.heap[k]? :=fun k hk=>by
  rw[←hW1];exact(Below.heap_alloc _ _ k (by simp;omega)).trans (Below.heap_alloc _ _ k hk)
 have hb1:Below w.heap.size w W1:=by rw[←hW1];exact(hb0.alloc hb0.size _).alloc (by have:=hb0.size;simp;omega) _
 have hs1:W1.heap.size=W0.heap.size+2:=by rw[←hW1];simp
 have hM:ApAtU w fn (.func (.func g) #[] lb) w.heap.size (W0.heap.size+1) W0.heap.size [] W1:=
  ⟨⟨_,(hold w.heap.size (by omega)).trans hv0,⟨rfl,.inl ⟨rfl,rfl⟩⟩,by simp⟩,
   by rw[←hW1];have:=World.alloc_heap_new (W0.alloc (.deferred (some []))) (.loop (apRecU fn (.func (.func g) #[] lb) w.heap.size W0.heap.size .ready none));rwa [World.size_alloc]at this,
   by rw[←hW1];exact(Below.heap_alloc _ _ _ (by simp)).trans (World.alloc_heap_new W0 _),hb1⟩
 refine⟨W0.heap.size+1,[{ target:=.collected W0.heap.size,args:= #[] }],W1,{ target:=.fn (.func g) lb,args:= #[.func (.yield (W0.heap.size+1)) #[] #[]] },W1,g,
  #[.func (.yield (W0.heap.size+1)) #[] #[]]++lb,W1,?_,?_,?_,?_,fun _=>h1,?_⟩
 · rw[←hW1];exact run_enterLoop_outer _ _ _ _ _
 · simp[resolve,go_sem]
 · intro f' hf';simp[Target.leads]at hf';subst hf';exact hFg
 · simp[invoke,go_sem,eg]
 · refine(hseq (W0.heap.size+1) (ApAtU w fn (.func (.func g) #[] lb) w.heap.size (W0.heap.size+1) W0.heap.size) W1 hb1 (apU_abides _ _ _ _ _ _ _ hb1.size)
    (fun pre x W hJ hl=>apYieldU F (n-1-1) w fn hfn _ w.heap.size (W0.heap.size+1) W0.heap.size (by omega) (by omega) (by omega) (Nat.le_refl _) (by omega) N hN pre x W hJ hl) hM).mono ?_
   rintro e W2 ⟨⟨v0,rfl⟩,ss,hS,h2⟩
   obtain⟨v,hv,hrow,hnil⟩:=h2.box
   have hend:=run_endLoop (P:=Tryz.prog) h2.L (by simp[apRecU])
   obtain⟨W3,hW3⟩:∃W3,W2.putObj (W0.heap.size+1) (.loop { apRecU fn (.func (.func g) #[] lb) w.heap.size W0.heap.size .ready none with state:=.exhausted })=W3:=⟨_,rfl⟩
   rw[hW3]at hend
   have hg3:W2.grownBy W3 (some (W0.heap.size+1)):=by rw[←hW3];exact grownBy_putObj_a _ _ _
   have hv3:W3.heap[w.heap.size]? =some (.cells #[v] 87 (0,0)):=by rw[←hW3];exact(World.putObj_heap_other (by omega)).trans hv
   have hK3:W3.heap[W0.heap.size]? =some (.deferred (some [])):=by rw[←hW3];exact(World.putObj_heap_other (by omega)).trans h2.K
   have hrow3:OU W3 w.heap.size v ss:=World.ownsRow.kept hrow hg3 (ownsRow_ne_a hrow h2.L (fun cur e=>by cases e))
   have hb3:Below w.heap.size w W3:=h2.below.grown hg3 h2.below.size (fun k e=>by cases e;omega)
   obtain⟨hc3,hf3⟩:=cell_of_box_a hv3
   clear hW3
   refine⟨none,W3,hend,?_⟩
   gi_wp2
   rw[←hs0]
   refine⟨by simp,.inl ⟨_,_,rfl,run_takeDeferred hK3,?_⟩⟩
   exact⟨_,results_tmp rfl _ _ _,v,ss,rfl,hS,World.ownsRow.kept hrow3 (grownBy_putObj_a _ _ _) (ownsRow_ne_a hrow3 hK3 (fun cur e=>by cases e)),hnil,hb3.grown (grownBy_putObj_a _ _ _) hb3.size (fun k e=>by cases e;omega)⟩
theorem collectU_in (F:Fence)(n:Nat)(h8:F.fn 201)(h11:F.fn 213)(hro:F.round=none)(hn:3≤n)(g:Nat)(lb:Array Value)(hFg:F.fn g)(eg:∀args w,(callFunc g args).run Tryz.prog w= .ok (.enter g args) w)
 (S:List Ui→Prop) (N:Nat) (hN:N≤1000) (w:World) (hseq:SeqGives F (n-1-1) Tryz.prog g lb uE S N w):
 CallsIn F n Tryz.prog 201 #[.func (.func g) #[] lb] w fun e w'=>∃(v:Value) (ss:List Ui),e= .returned v∧S ss∧OU w' w.heap.size v ss∧(v= .slice none 0 0↔ss=[])∧Below w.heap.size w w':=by
 have h1:1≤n:=by omega
 have e11:∀args w,(callFunc 213 args).run Tryz.prog w= .ok (.enter 213 args) w:=enters_of Tryz.func213 (by kernel_rfl) rfl
 refine callsIn_of_wp Tryz.func201 rfl h8 ?_ hro
 simp only[Tryz.ntmps201,List.size_toArray,List.length_cons,List.length_nil,Nat.reduceAdd,Nat.reduceSub,Array.replicate_succ,Array.replicate_zero,List.push_toArray,List.append_toArray,List.nil_append,List.cons_append]
 gi_wp2_with (gi_at_fn 213;refine(appendSeqU_in F (n-1) h11 hro (by omega) g lb hFg eg S N hN _ hseq).mono ?_;rintro e w' ⟨v,ss,rfl,hS,hrow,hnil,hb⟩)
 go_ret
 exact⟨v,ss,rfl,hS,hrow,hnil,hb⟩
end Go.Proofs.YtlnhaajjoplafaaGreatDoor
