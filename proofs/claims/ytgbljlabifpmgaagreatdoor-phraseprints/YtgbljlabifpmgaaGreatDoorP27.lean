import Derived.Test.YtgbljlabifpmgaaGreatDoorP26
import Derived.Shelf.RegionOpenPlain
import Derived.Laws.NewBlocks
set_option linter.unusedVariables false
set_option maxHeartbeats 12000000
namespace Go.Proofs.YtgbljlabifpmgaaGreatDoor
open Go.RowKit Go.Shelf
set_option linter.unusedSimpArgs false
set_option maxRecDepth 100000
theorem wpList_copy_runJ (w:World){ops:Array Oper}{rest:List Oper}{o:Oper}{a:Act}{Q:Exit→Act→World→Prop}(hgd:o.guard=none)(d s:Operand)(t t':TypeId)
 (ho:o.op= .call { callee:=.builtin .copy,args:= #[d,s],argTypes:= #[t,t'] }) (v u:Value) (hd:a.eval d=v) (hs:a.eval s=u) {v':Value} {w':World}
 (hr:(Builtin.copy_ #[t,t'] o.type #[v,u]).run Tryz.prog w= .ok v' w') (h:wpList Tryz.prog ops Q rest (a.put o.dst v') w'):wpList Tryz.prog ops Q (o::rest) a w:=by
 refine wpList_plain hgd fun _ hK=>?_
 unfold Oper.wp execOp
 simp only[ho,resolve,invoke,builtin,Sem.run_bind,Sem.run_pure,Result.andThen_ok,List.map_toArray,List.map_cons,List.map_nil,hd,hs,hr]
 exact hK _ _ h
theorem step_copy_runJ {ops:Array Oper}{o:Oper}{a:Act}{w:World}{K:Act→World→Prop}{Q:Exit→Act→World→Prop}{E:Prop}
 (hg:o.guard=none) (d x:Operand) (dT sT:TypeId) (hop:o.op=Op.call { callee:=Callee.builtin Builtin.copy,args:= #[d,x],argTypes:= #[dT,sT] })
 (v u:Value) (hd:a.eval d=v) (hx:a.eval x=u) {v':Value} {w':World} (hr:(Builtin.copy_ #[dT,sT] o.type #[v,u]).run Tryz.prog w= .ok v' w') (hK:K (a.put o.dst v') w'):
 if Region.wanted o (yielded ops a.tmps)=true then Oper.wp Tryz.prog o a w K Q else E:=by
 have hw:Region.wanted o (yielded ops a.tmps)=true:=by simp[Region.wanted,hg]
 rw[if_pos hw]
 unfold Oper.wp
 simp[execOp,hop,resolve,invoke,builtin,hd,hx,hr,Result.andThen]
 exact hK
theorem Tryz.sizeTok:(Tryz.prog.info? 43).map (·.size)=some 3:=by kernel_rfl
theorem Tryz.sizeOfTok (w:World):(Go.sizeOf 43).run Tryz.prog w= .ok 3 w:=by
 obtain⟨i0,hi,hz0,hz1,hz2⟩:=info_parts Tryz.infoTok
 simp[Go.sizeOf,typeInfo,hi,hz1]
theorem KW.row {B:Nat}{a w:World}(h:KW B a w){g:Nat}(hB:B≤g)(ht:∀f,f≠43→¬Typed a g f)(cs:Array Value):KW B a (w.setRow g cs):=
 ⟨⟨h.bel.os,h.bel.tape,h.bel.output,by rw[setRow_size];exact h.bel.size,fun k hk=>(setRow_other w g k cs (by omega)).trans (h.bel.block k hk)⟩,fun b f h1 h2 hty=>(setRow_other w g b cs (fun e=>ht f h1 (by rw[←e];exact hty))).trans (h.typed b f h1 h2 hty)⟩
theorem tok_typed {w:World}{g:Nat}{cur:Array Value}(hg:w.heap[g]? =some (.cells cur 43 (0,0))):∀f,f≠43→¬Typed w g f:=by
 rintro f hf ⟨c1,f1,g1⟩
 rw[hg]at g1
 injection g1 with g1
 injection g1 with _ g1 _
 exact hf g1.symm
theorem new_typed {w:World}{g:Nat}(hg:w.heap.size≤g):∀f,f≠43→¬Typed w g f:=fun f _ h=>absurd h.lt (by omega)
theorem ins_room (w:World)(B:Nat)(L:List Tk)(i:Nat)(t:Tk)(g c:Nat)(cur:Array Value)(hb:B+1≤g)(hg:w.heap[g]? =some (.cells cur 43 (0,0)))(hm:c≤maxLen)(hsz:cur.size=c*3)(htk:cur.toList.take (L.length*3)=tcells L)
 (hi:i<L.length) (hl:L.length≤1000000) (hroom:L.length+1≤c):
 Calls Tryz.prog 64 #[.slice (some ⟨g,0,none⟩) L.length c,.int .i64 (i:Int),.slice (some ⟨w.heap.size,0,none⟩) 1 1] (w.alloc (.cells #[.int .i64 t.kind,.string t.s,.int .i64 t.at_] 43)) fun en w'=>∃v',en= .returned v'∧OTk w' (B+1) v' (L.take i++t::L.drop i)∧KW (B+1) w w':=by
 have hgl:g<w.heap.size:=(Array.getElem?_eq_some_iff.1 hg).1
 have hB1:B+1≤w.heap.size:=by omega
 have HT:Hid (∀f,f≠43→¬Typed w g f):=tok_typed hg
 have HK:Hid (KW (B+1) w (w.alloc (.cells #[.int .i64 t.kind,.string t.s,.int .i64 t.at_] 43))):=KW.of_below ((Below.refl _ _).alloc (Nat.le_refl _) _) hB1
 have hv0:∀j u,(tcells [t])[j]? =some u→(w.alloc (.cells #[.int .i64 t.kind,.string t.s,.int .i64 t.at_] 43)).cell? ⟨w.heap.size,j,none⟩=some u:=by
  intro j u hj
  rw[World.cell?_alloc_at _ _ w.heap.size j rfl]
  rw[←hj];simp[tcells]
 have hgW:(w.alloc (.cells #[.int .i64 t.kind,.string t.s,.int .i64 t.at_] 43)).heap[g]? =some (.cells cur 43 (0,0)):=(Below.heap_alloc _ _ _ hgl).trans hg
 have hnW:(w.alloc (.cells #[.int .i64 t.kind,.string t.s,.int .i64 t.at_] 43)).heap[w.heap.size]? =some (.cells #[.int .i64 t.kind,.string t.s,.int .i64 t.at_] 43 (0,0)):=heap_alloc_new _ _
 generalize w.alloc (.cells #[.int .i64 t.kind,.string t.s,.int .i64 t.at_] 43)=W at *
 have hLn:(tcells L).length=L.length*3:=tcells_length L
 have hdl:(tcells (L.drop i)).length=(L.length-i)*3:=by rw[tcells_length,List.length_drop]
 have hdt:tcells (L.drop i)=(tcells L).drop (i*3):=tcells_drop L i
 have H1:Hid (∀v∈tcells (L.drop i),v.oneCell'=true):=tcells_one _
 obtain⟨r1,r2,r3⟩:=row_shift cur.toList (tcells L) (tcells [t]) _ _ (i*3) rfl rfl (by rw[hLn];exact htk) (by omega) (by rw[hLn];simp[tcells];omega)
 rw[←tcells_ins]at r3
 rw[←hdt]at r1 r2 r3
 have e3:(tcells [t]).length=3:=rfl
 rw[e3]at r1 r2 r3
 have hcells:∀j u,(tcells (L.drop i))[j]? =some u→W.cell? ((⟨g,i*3,none⟩:Addr).add j)=some u:=by
  intro j u hj
  rw[Addr.add_lit]
  rw[hdt,List.getElem?_drop,←htk,List.getElem?_take]at hj
  split at hj
  · simp[World.cell?, hgW]
    simpa using hj
  · cases hj
 have hcp1:∀ty dc sc,(Builtin.copy_ #[23,23] ty #[.slice (some ⟨g,(i+1)*3,none⟩) (L.length-i) dc,.slice (some ⟨g,i*3,none⟩) (L.length+1-i) sc]).run Tryz.prog W.drew= .ok (goInt ((L.length-i:Nat):Int)) (W.drew.setRow g (cur.toList.take (i*3+3)++tcells (L.drop i)++cur.toList.drop (i*3+3+(tcells (L.drop i)).length)).toArray):=fun ty dc sc=>by
  have:=copy_row3 W.drew 23 23 ty 43 g ((i+1)*3) (L.length-i) dc ⟨g,i*3,none⟩ (L.length+1-i) sc (L.length-i) cur _ (tcells (L.drop i)) Tryz.underlying23 Tryz.sizeTok hgW (by simp only[Nat.min_def];split<;>omega) hdl hcells (by rw[hdl,hsz];omega) H1.out
  rw[show(i+1)*3=i*3+3 by omega]at this ⊢
  exact this
 generalize hC1:cur.toList.take (i*3+3)++tcells (L.drop i)++cur.toList.drop (i*3+3+(tcells (L.drop i)).length)=C1 at *
 have hl1:C1.length=c*3:=by rw[r1];simpa using hsz
 have hg1:(W.drew.setRow g C1.toArray).heap[g]? =some (.cells C1.toArray 43 (0,0)):=setRow_heap W.drew g cur _ _ _ hgW
 have hcp2:∀ty dc,(Builtin.copy_ #[23,23] ty #[.slice (some ⟨g,i*3,none⟩) (L.length+1-i) dc,.slice (some ⟨w.heap.size,0,none⟩) 1 1]).run Tryz.prog (W.drew.setRow g C1.toArray)= .ok (goInt ((1:Nat):Int)) (W.drew.setRow g (C1.take (i*3)++tcells [t]++C1.drop (i*3+3)).toArray):=fun ty dc=>by
  have:=copy_row3 (W.drew.setRow g C1.toArray) 23 23 ty 43 g (i*3) (L.length+1-i) dc ⟨w.heap.size,0,none⟩ 1 1 1 C1.toArray _ (tcells [t]) Tryz.underlying23 Tryz.sizeTok hg1 (by simp only[Nat.min_def];split<;>omega) rfl
   (fun j u hj=>by
    rw[Addr.add_lit,Nat.zero_add,cell_setRow_other _ _ _ _ (by show w.heap.size≠g;omega)]
    exact hv0 j u hj) (by simp[tcells];omega) (tcells_one _)
  rw[setRow_setRow,e3]at this
  exact this
 have hov:∀lb cb,(callFunc 85 #[.slice (some ⟨w.heap.size,0,none⟩) 1 1,.slice (some ⟨g,(i+1)*3,none⟩) lb cb]).run Tryz.prog W= .ok (.value (.bool false)) W:=fun lb cb=>by
  rw[run_callFunc_extern Tryz.func85 (by kernel_rfl) (by kernel_rfl) (by kernel_rfl) (e:=Extern.SlicesOverlaps.overlaps #[23,23] #[4]) (by kernel_rfl),
   Lib.run_overlaps_apart W 23 4 43 Tryz.underlying23 3 Tryz.sizeOfTok ⟨w.heap.size,0,none⟩ ⟨g,(i+1)*3,none⟩ 1 1 lb cb (by show w.heap.size≠g;omega) 43 43 3 cur.size (by simp[World.shape?, hnW]) (by simp[World.shape?, hgW]) (by rw[hsz];omega) (by simp[World.frozen?, hnW]) (by simp[World.frozen?, hnW])]
  rfl
 have hz1:¬((i:Int)=(L.length:Int)):=by omega
 have hz2:¬((c:Int)<(L.length:Int)+1):=by omega
 have hin:i≤L.length:=by omega
 have hb1:(0:Int)≤(i:Int)+1:=by omega
 have htn:((i:Int)+1).toNat=i+1:=by omega
 have hw1:IntKind.i64.wrap ((i:Int)+1)=(i:Int)+1:=by rw[IntKind.wrap_i64];omega
 have hc63:c≤9223372036854775807:=by unfold maxLen at hm;omega
 have hb3:(i:Int)≤(L.length:Int)+1:=by omega
 have hb2:¬(c=i+1):=by omega
 have hb4:¬(c=i):=by omega
 have HR:Hid (∀v',v'= .slice (some ⟨g,0,none⟩) (L.length+1) c→OTk (W.drew.setRow g (C1.take (i*3)++tcells [t]++C1.drop (i*3+3)).toArray) (B+1) v' (L.take i++t::L.drop i)):=by
  rintro v' rfl
  have hlen:(L.take i++t::L.drop i).length=L.length+1:=by simp;omega
  unfold OTk
  rw[hlen]
  refine⟨by rw[tcells_length,hlen],.inr ⟨g,c,_,rfl,hb,setRow_heap W.drew g cur _ _ _ hgW,hroom,hm,by rw[List.size_toArray,r2];simpa using hsz,?_⟩⟩
  rw[show(L.length+1)*3=(tcells L).length+3 by rw[hLn];omega]
  exact r3
 have HK2:=(HK.out.up (Below.refl W.heap.size W).drew (by have:=HK.out.bel.size;omega)).row hb HT.out (C1.take (i*3)++tcells [t]++C1.drop (i*3+3)).toArray
 have HK3:Hid (KW (B+1) w _):=HK2
 clear HK2 hC1 r1 r2 r3 hcells hdl hdt hLn htk hg1 hv0 hnW HT HK
 generalize (C1.take (i*3)++tcells [t]++C1.drop (i*3+3)).toArray=C2 at *
 have mixed:Tryz.prog.follows Departure.mixedOrders=true:=by kernel_rfl
 go_enter Tryz.func64,Tryz.ntmps64
 go_wp2_with (simp only[hov])
 go_region_law_o (refine step_copy_runJ rfl _ _ 23 23 rfl _ _ (by simp[Act.eval,Act.put]) (by simp[Act.eval,Act.put]) (hcp1 _ _ _) ?_)
 go_wp2_with (at_builtin;refine wpList_copy_runJ _ rfl _ _ 23 23 rfl _ _ rfl rfl (hcp2 _ _) ?_)
 go_ret
 exact⟨_,rfl,HR.out _ rfl,HK3.out⟩
theorem zeros_size (k:Nat):(Builtin.zeroCells (Value.agg #[.int .i64 0,.string ⟨#[]⟩,.int .i64 0]).cells k).size=k*3:=by
 have h:(Value.agg #[.int .i64 0,.string ⟨#[]⟩,.int .i64 0]).cells.size=3:=by kernel_rfl
 unfold Builtin.zeroCells
 rw[Array.size_map,Array.size_range,h]
theorem ins_grow (w:World)(B:Nat)(L:List Tk)(i:Nat)(t:Tk)(g c:Nat)(cur:Array Value)(hb:B+1≤g)(hg:w.heap[g]? =some (.cells cur 43 (0,0)))(hle:L.length≤c)(hsz:cur.size=c*3)(htk:cur.toList.take (L.length*3)=tcells L)
 (hi:i<L.length) (hl:L.length≤1000000) (hroom:c<L.length+1):
 Calls Tryz.prog 64 #[.slice (some ⟨g,0,none⟩) L.length c,.int .i64 (i:Int),.slice (some ⟨w.heap.size,0,none⟩) 1 1] (w.alloc (.cells #[.int .i64 t.kind,.string t.s,.int .i64 t.at_] 43)) fun en w'=>∃v',en= .returned v'∧OTk w' (B+1) v' (L.take i++t::L.drop i)∧KW (B+1) w w':=by
 obtain⟨i0,hi0,hz0,hzs,hzb⟩:=info_parts Tryz.infoTok
 have hgl:g<w.heap.size:=(Array.getElem?_eq_some_iff.1 hg).1
 have hB1:B+1≤w.heap.size:=by omega
 have HK:Hid (KW (B+1) w (w.alloc (.cells #[.int .i64 t.kind,.string t.s,.int .i64 t.at_] 43))):=KW.of_below ((Below.refl _ _).alloc (Nat.le_refl _) _) hB1
 have hv0:∀j u,(tcells [t])[j]? =some u→(w.alloc (.cells #[.int .i64 t.kind,.string t.s,.int .i64 t.at_] 43)).cell? ⟨w.heap.size,j,none⟩=some u:=by
  intro j u hj
  rw[World.cell?_alloc_at _ _ w.heap.size j rfl]
  rw[←hj];simp[tcells]
 have hgW:(w.alloc (.cells #[.int .i64 t.kind,.string t.s,.int .i64 t.at_] 43)).heap[g]? =some (.cells cur 43 (0,0)):=(Below.heap_alloc _ _ _ hgl).trans hg
 have hWs:(w.alloc (.cells #[.int .i64 t.kind,.string t.s,.int .i64 t.at_] 43)).heap.size=w.heap.size+1:=by simp
 generalize w.alloc (.cells #[.int .i64 t.kind,.string t.s,.int .i64 t.at_] 43)=W at *
 have hLn:(tcells L).length=L.length*3:=tcells_length L
 have hdl:(tcells (L.drop i)).length=(L.length-i)*3:=by rw[tcells_length,List.length_drop]
 have hdt:tcells (L.drop i)=(tcells L).drop (i*3):=tcells_drop L i
 have H1:Hid (∀v∈tcells (L.drop i),v.oneCell'=true):=tcells_one _
 have e3:(tcells [t]).length=3:=rfl
 have hcell:∀j u,(tcells L)[j]? =some u→W.cell? ⟨g,j,none⟩=some u:=by
  intro j u hj
  rw[←htk,List.getElem?_take]at hj
  split at hj
  · simp[World.cell?, hgW]
    simpa using hj
  · cases hj
 have hik:i+(L.length+1-i)=L.length+1:=by omega
 have hkk:(L.length:Int)+1-(i:Int)=((L.length+1-i:Nat):Int):=by omega
 have hold:(Builtin.firstCells i0.size i (.slice (some ⟨g,0,none⟩) i c)).run Tryz.prog W.drew= .ok ((tcells L).take (i*3)).toArray W.drew:=by
  rw[hzs]
  exact run_firstCells_some W.drew 3 i ⟨g,0,none⟩ i c ((tcells L).take (i*3)) (by rw[List.length_take];omega) (fun j v hj=>by
   rw[Addr.add_lit,Nat.zero_add]
   rw[List.getElem?_take]at hj
   split at hj
   · exact hcell j v hj
   · cases hj)
 obtain⟨G,hG⟩:∃G,G=grownCap W (L.length+1) c 43:=⟨_,rfl⟩
 obtain⟨ROW,hROW⟩:∃ROW:Array Value,ROW=((tcells L).take (i*3)).toArray++Builtin.zeroCells (Value.agg #[.int .i64 0,.string ⟨#[]⟩,.int .i64 0]).cells (L.length+1-i)++Builtin.zeroCells (Value.agg #[.int .i64 0,.string ⟨#[]⟩,.int .i64 0]).cells (G-(L.length+1)):=⟨_,rfl⟩
 have hGn:L.length+1≤G:=by rw[hG];exact grownCap_ge W _ _ _
 have hGm:G≤maxLen:=by rw[hG];exact grownCap_le_maxLen W (L.length+1) c 43 (by unfold maxLen;omega)
 have hrz:∀ty,(Builtin.append_ #[23,3] ty #[.slice (some ⟨g,0,none⟩) i c,.int .i64 ((L.length:Int)+1-(i:Int))]).run Tryz.prog W= .ok (.slice (some ⟨w.heap.size+1,0,none⟩) (L.length+1) G) (W.drew.alloc (.cells ROW 43)):=fun ty=>by
  have h:=Lib.run_append_grow_zeros W 23 3 ty 43 i0 _ .i64 .i64 Tryz.underlying23 Tryz.underlying3 hi0 hz0 (some ⟨g,0,none⟩) i c ((tcells L).take (i*3)) hold (L.length+1-i) (by omega) (by omega) (by omega) (by omega) (by rw[hzb];omega) (by rw[hzb,hik];exact growslice_fits hroom (by omega))
  rw[hik,←hG,←hROW,hWs]at h
  rw[hkk]
  exact h
 have hRs:ROW.toList.length=G*3:=by
  rw[hROW]
  simp only[Array.length_toList,Array.size_append,zeros_size,List.size_toArray,List.length_take,hLn]
  omega
 have hRt:ROW.toList.take (i*3)=(tcells L).take (i*3):=by
  rw[hROW]
  simp only[Array.toList_append,List.append_assoc]
  exact List.take_left' (by rw[List.length_take];omega)
 obtain⟨r1,r2,r3⟩:=row_grow ROW.toList (tcells L) (tcells [t]) _ _ (i*3) rfl rfl hRt (by omega) (by rw[hLn,hRs,e3];omega)
 rw[←tcells_ins]at r3
 rw[←hdt,e3]at r2 r3
 rw[e3]at r1
 obtain⟨W1,hW1⟩:∃W1,W1=W.drew.alloc (.cells ROW 43):=⟨_,rfl⟩
 have hn1:W1.heap[w.heap.size+1]? =some (.cells ROW 43 (0,0)):=by
  rw[hW1,←hWs];exact heap_alloc_new W.drew _
 have ho1:∀k,k<w.heap.size+1→W1.heap[k]? =W.heap[k]? :=fun k hk=>by rw[hW1];exact Below.heap_alloc W.drew _ k (by show k<W.heap.size;omega)
 have hcpA:∀(V:World),V.heap=W1.heap→∀ty dc,(Builtin.copy_ #[23,23] ty #[.slice (some ⟨w.heap.size+1,i*3,none⟩) (L.length+1-i) dc,.slice (some ⟨w.heap.size,0,none⟩) 1 1]).run Tryz.prog V= .ok (goInt ((1:Nat):Int)) (V.setRow (w.heap.size+1) (ROW.toList.take (i*3)++tcells [t]++ROW.toList.drop (i*3+3)).toArray):=fun V hV ty dc=>by
  have:=copy_row3 V 23 23 ty 43 (w.heap.size+1) (i*3) (L.length+1-i) dc ⟨w.heap.size,0,none⟩ 1 1 1 ROW _ (tcells [t]) Tryz.underlying23 Tryz.sizeTok (by rw[hV];exact hn1) (by simp only[Nat.min_def];split<;>omega) rfl
   (fun j u hj=>by
    rw[Addr.add_lit,Nat.zero_add]
    have h0:=hv0 j u hj
    unfold World.cell? at h0 ⊢
    rw[hV,ho1 _ (Nat.lt_succ_self _)]
    exact h0) (by rw[e3,←Array.length_toList,hRs];omega) (tcells_one _)
  rw[e3]at this
  exact this
 generalize hC1:ROW.toList.take (i*3)++tcells [t]++ROW.toList.drop (i*3+3)=C1 at *
 have hcpB:∀(V:World),V.heap=(W1.setRow (w.heap.size+1) C1.toArray).heap→∀ty dc sc,(Builtin.copy_ #[23,23] ty #[.slice (some ⟨w.heap.size+1,(i+1)*3,none⟩) (L.length-i) dc,.slice (some ⟨g,i*3,none⟩) (L.length-i) sc]).run Tryz.prog V= .ok (goInt ((L.length-i:Nat):Int)) (V.setRow (w.heap.size+1) (C1.take (i*3+3)++tcells (L.drop i)++C1.drop (i*3+3+(tcells (L.drop i)).length)).toArray):=fun V hV ty dc sc=>by
  have:=copy_row3 V 23 23 ty 43 (w.heap.size+1) ((i+1)*3) (L.length-i) dc ⟨g,i*3,none⟩ (L.length-i) sc (L.length-i) C1.toArray _ (tcells (L.drop i)) Tryz.underlying23 Tryz.sizeTok (by rw[hV];exact setRow_heap W1 _ _ _ _ _ hn1) (by simp) hdl
   (fun j u hj=>by
    rw[Addr.add_lit]
    have h0:=hcell (i*3+j) u (by rwa [hdt,List.getElem?_drop]at hj)
    unfold World.cell? at h0 ⊢
    rw[hV,setRow_other _ _ _ _ (by show g≠_;omega),ho1 _ (by show g<_;omega)]
    exact h0) (by rw[hdl,List.size_toArray,r1,hRs];omega) H1.out
  rw[show(i+1)*3=i*3+3 by omega]at this ⊢
  simpa using this
 have hl2:=r2
 generalize hC2:C1.take (i*3+3)++tcells (L.drop i)++C1.drop (i*3+3+(tcells (L.drop i)).length)=C2 at *
 have HR:Hid (∀V:World,V.heap=((W1.setRow (w.heap.size+1) C1.toArray).setRow (w.heap.size+1) C2.toArray).heap→V.os=W.os→V.tape=W.tape→V.output=W.output→OTk V (B+1) (.slice (some ⟨w.heap.size+1,0,none⟩) (L.length+1) G) (L.take i++t::L.drop i)∧KW (B+1) w V):=by
  intro V hV h1 h2 h3
  have hlen:(L.take i++t::L.drop i).length=L.length+1:=by simp;omega
  have hVn:V.heap[w.heap.size+1]? =some (.cells C2.toArray 43 (0,0)):=by rw[hV];exact setRow_heap _ _ _ _ _ _ (setRow_heap W1 _ _ _ _ _ hn1)
  have hVo:∀k,k<w.heap.size+1→V.heap[k]? =W.heap[k]? :=fun k hk=>by
   rw[hV,setRow_other _ _ _ _ (by omega),setRow_other _ _ _ _ (by omega)];exact ho1 k hk
  constructor
  · unfold OTk
    rw[hlen]
    refine⟨by rw[tcells_length,hlen],.inr ⟨_,G,_,rfl,by omega,hVn,hGn,hGm,by rw[List.size_toArray,hl2,hRs],?_⟩⟩
    rw[show(L.length+1)*3=(tcells L).length+3 by rw[hLn];omega]
    exact r3
  · have hVs:W.heap.size≤V.heap.size:=by
     have:=(Array.getElem?_eq_some_iff.1 hVn).1;omega
    exact HK.out.trans ⟨⟨h1,h2,h3,hVs,fun k hk=>hVo k (by omega)⟩,fun b f _ _ hty=>hVo b (by have:=hty.lt;omega)⟩
 have hci:¬(c=i):=by omega
 have hGi:¬(G=i):=by omega
 have hGim:¬(G=i+1):=by omega
 have hz1:¬((i:Int)=(L.length:Int)):=by omega
 have hz3:(c:Int)<(L.length:Int)+1:=by omega
 have hG63:G≤9223372036854775807:=by unfold maxLen at hGm;omega
 have hin:i≤L.length:=by omega
 have hb1:(0:Int)≤(i:Int)+1:=by omega
 have htn:((i:Int)+1).toNat=i+1:=by omega
 have hw1:IntKind.i64.wrap ((i:Int)+1)=(i:Int)+1:=by rw[IntKind.wrap_i64];omega
 have hb3:(i:Int)≤(L.length:Int):=by omega
 have mixed:Tryz.prog.follows Departure.mixedOrders=true:=by kernel_rfl
 rw[←hW1]at hrz
 clear hkk hik hold hROW hG hRs hRt r1 r2 r3 hC1 hC2 hl2 hn1 ho1 hcell hdl hdt hLn htk hv0 HK hi0 hz0 hzs hzb
 subst hW1
 have hcpB':=hcpB ((W.alloc (.cells ROW 43)).drew.setRow (w.heap.size+1) C1.toArray).drew rfl
 clear hcpB
 go_enter Tryz.func64,Tryz.ntmps64
 go_wp2_with (at_builtin;refine Lib.wpList_append_run _ rfl _ _ _ _ rfl _ _ rfl rfl _ _ (hrz _) ?_)
 rw[hcpA (W.alloc (.cells ROW 43)).drew rfl]
 simp only[Result.andThen_ok]
 go_wp2
 go_region_law_o (refine step_copy_runJ rfl _ _ 23 23 rfl _ _ (by simp[Act.eval,Act.put]) (by simp[Act.eval,Act.put]) (hcpB' _ _ _) ?_)
 go_wp2
 go_ret
 exact⟨_,rfl,HR.out _ rfl rfl rfl rfl⟩
end Go.Proofs.YtgbljlabifpmgaaGreatDoor
