import Derived.Test.YtjkepjbfgeldnaaGreatDoorB16
import Derived.Test.YtjkepjbfgeldnaaGreatDoorB33
import Derived.Test.YtjkepjbfgeldnaaGreatDoorB11
import Derived.Laws.AppendOwnNone
import Derived.Deep.RegionWith
import Derived.Shelf.Abstract
import Derived.Test.YtjkepjbfgeldnaaGreatDoorB23
import Derived.Test.YtjkepjbfgeldnaaGreatDoorShelf
import Derived.Test.YtjkepjbfgeldnaaGreatDoorB17
set_option linter.unusedVariables false
set_option maxHeartbeats 12000000
namespace Go.Proofs.YtjkepjbfgeldnaaGreatDoor
open Go.RowKit
set_option maxRecDepth 100000
theorem ON.value {w:World}{base:Nat}{v:Value}{L:List Nd}(h:ON w base v L):∃q c,v= .slice q L.length c∧NT w 0 q L∧L.length≤c∧c≤maxLen:=NL.of_row h.2 h.1
theorem ON.mono {w:World}{base base':Nat}{v:Value}{L:List Nd}(h:ON w base v L)(hb:base'≤base):ON w base' v L:=by
 refine⟨⟨h.1.1,?_⟩,h.2⟩
 rcases h.1.2 with hn | ⟨g,cap,cur,h1,h2,rest⟩
 · exact .inl hn
 · exact .inr ⟨g,cap,cur,h1,Nat.le_trans hb h2,rest⟩
theorem flat_take {vs:List (List Nd)}{k:Nat}(h:k<vs.length):(vs.take (k+1)).flatten=(vs.take k).flatten++vs[k]:=by
 rw[List.take_succ_eq_append_getElem h,List.flatten_append];simp
theorem flat_le {vs:List (List Nd)}(k:Nat):(vs.take k).flatten.length≤vs.flatten.length:=by
 conv=>rhs;rw[←List.take_append_drop k vs]
 rw[List.flatten_append,List.length_append];omega
def cntN (vs:List (List Nd))(k:Nat):Nat:=(vs.take k).flatten.length
theorem cntN_next {vs:List (List Nd)}{k:Nat}(h:k<vs.length):cntN vs (k+1)=cntN vs k+vs[k].length:=by
 unfold cntN;rw[flat_take h,List.length_append]
theorem cntN_le (vs:List (List Nd))(k:Nat):cntN vs k≤vs.flatten.length:=flat_le k
theorem cntN_all (vs:List (List Nd)):cntN vs vs.length=vs.flatten.length:=by unfold cntN;rw[List.take_length]
theorem concatN_any (vs:List (List Nd))(p:Option Addr)(c:Nat)(w:World)(hv:LL w p vs)(hne:∀v∈vs,v≠[])(hl:vs.flatten.length≤1000)(hc:vs.length≤1000):
 Calls Tryz.prog 177 #[.slice p vs.length c] w fun e w'=>(∃v,e= .returned v∧ON w' w.heap.size v vs.flatten∧(vs=[]→v= .slice none 0 0))∧Below w.heap.size w w':=by
 have HV:Hid (LL w p vs):=hv
 have HNE:Hid (∀v∈vs,v≠[]):=hne
 have HL:Hid (vs.flatten.length≤1000):=hl
 clear hv hne hl
 go_enter Tryz.func177,Tryz.ntmps177
 go_wp2
 go_loopw [3,11] (fun sz i wr=>∃k:Nat,k≤vs.length∧i= .int .i64 k∧sz= .int .i64 ((cntN vs k:Nat):Int)∧Below w.heap.size w wr) (fun _ i _=>vs.length-(intOf i).toNat)
 case atStart=>exact⟨0,by omega,rfl,rfl,Below.refl _ _⟩
 case round=>
  obtain⟨k,hk,rfl,rfl,hb⟩:=hrel
  by_cases hlt:k<vs.length
  · have i1:(k:Int)<(vs.length:Int):=by omega
    obtain⟨b,off,q,cc,rfl,hbw,hcell,hnl,h1,h2⟩:=(HV.out.up hb).at hlt
    have HF:Hid (_=_):=cntN_next hlt
    have hf1:=cntN_le vs (k+1)
    rw[HF.out]at hf1
    have hf2:=HL.out
    have HF3:Hid (_≤_):=hf1
    have i2:cntN vs k+vs[k].length≤1000:=by omega
    clear hf1 hf2
    generalize cntN vs k=m at *
    generalize vs[k]=v at *
    go_wp2
    go_roundw
    case rel=>exact⟨k+1,by omega,by go_num,by rw[HF.out];go_num,hb⟩
    case measure=>simp[intOf];omega
  · obtain rfl:k=vs.length:=by omega
    have i1:¬(vs.length:Int)<(vs.length:Int):=by omega
    rw[cntN_all]
    have hz:vs=[]→vs.flatten.length=0:=fun h=>by rw[h];rfl
    have HZ:Hid (vs=[]→vs.flatten.length=0):=hz
    have hG:=growN_any vs.flatten.length wr (by have:=HL.out;omega)
    have HFL:Hid (_=_):=cntN_all vs
    generalize hm:vs.flatten.length=m at *
    have i2:m≤1000:=HL.out
    have HM:Hid (_=_):=hm
    clear hz hm
    go_wp2_with fail
    refine hG.mono ?_
    rintro e wg ⟨⟨v0,rfl,hon0,hz0⟩,hbg⟩
    have HZ0:Hid (vs=[]→v0= .slice none 0 0):=fun h=>hz0 (HZ.out h)
    have hbg2:=hb.trans (hbg.mono hb.size)
    clear hz0 HZ HFL
    go_wp2_with fail
    go_loopw [6,27] (fun nv i wx=>∃k:Nat,k≤vs.length∧i= .int .i64 k∧ON wx w.heap.size nv (vs.take k).flatten∧Hid (k=0→nv=v0)∧Below w.heap.size w wx) (fun _ i _=>vs.length-(intOf i).toNat)
    case atStart=>exact⟨0,Nat.zero_le _,rfl,hon0.mono hb.size,fun _=>rfl,hbg2⟩
    case round=>
     rename World=>wx
     obtain⟨k,hk,rfl,hon,HK,hbx⟩:=hrel
     by_cases hlt:k<vs.length
     · have i1:(k:Int)<(vs.length:Int):=by omega
       obtain⟨b,off,q,cc,rfl,hbw,hcell,hnl,h1,h2⟩:=(HV.out.up hbx).at hlt
       have HF:Hid (_=_):=flat_take hlt
       have hne:=HNE.out vs[k] (List.getElem_mem _)
       have HF1:Hid _:=flat_le (vs:=vs) (k+1)
       obtain⟨b',off',rfl⟩:∃b' off',q=some ⟨b',off',none⟩:=by
        rcases hnl with h | ⟨b',off',h,_⟩
        · exact absurd h hne
        · exact⟨b',off',h⟩
       have i5:(vs.take k).flatten.length+vs[k].length≤1000:=by
        have h1:=HF1.out
        rw[HF.out,List.length_append]at h1
        have h2:=HL.out
        have h3:=HM.out
        omega
       have HO:Hid (ON wx w.heap.size u6 (vs.take k).flatten):=hon
       have HNL:Hid _:=hnl
       clear hon hnl HF1 HK
       generalize vs[k]=v at *
       go_wp2_with (at_builtin;refine append_nodes wx rfl (.tmp 31) (.tmp 32) rfl w.heap.size u6 (vs.take k).flatten rfl HO.out v v.length rfl b' off' cc HNL.out rfl (by omega) hbx.size ?_;intro v' w2 hon2 hk2)
       go_roundw
       case rel=>exact⟨k+1,by omega,by go_num,by rw[HF.out];exact hon2,fun h=>by omega,hbx.trans hk2.bel⟩
       case measure=>simp[intOf];omega
     · obtain rfl:k=vs.length:=by omega
       have i1:¬(vs.length:Int)<(vs.length:Int):=by omega
       rw[List.take_length]at hon
       have HR:Hid (vs=[]→u6= .slice none 0 0):=fun h=>by rw[HK.out (by rw[h];rfl)];exact HZ0.out h
       generalize hF:vs.flatten=F at *
       have HF:Hid (_=_):=hF
       clear hF
       obtain⟨q',c',rfl,_⟩:=hon.value
       have HO:Hid _:=hon
       clear hon
       go_wp2
       go_ret
       rw[HF.out]
       exact⟨⟨_,rfl,HO.out,HR.out⟩,hbx⟩
def ndV (n:Nd):Value:=.agg #[.int .i64 n.op,.int .i64 n.n,.string n.s,.string n.t]
theorem append_join (w:World){ops:Array Oper}{rest:List Oper}{o:Oper}{a:Act}{Q:Exit→Act→World→Prop}(hgd:o.guard=none)(s x:Operand)
 (ho:o.op= .call { callee:=.builtin .append,args:= #[s,x],argTypes:= #[59,59] })
 (base:Nat) (sv:Value) (n:Nd) (hs:a.eval s=sv) (hown:ON w base sv [n]) (v:Value) (F:List Nd) (hx:a.eval x=v) (hF:ON w 0 v F) (hz:F=[]→v= .slice none 0 0) (hlen:F.length≤1000) (hbase:base≤w.heap.size)
 (h:∀v' w',ON w' base v' (n::F)→Below base w w'→wpList Tryz.prog ops Q rest (a.put o.dst v') w'):wpList Tryz.prog ops Q (o::rest) a w:=by
 by_cases hE:F=[]
 · subst hE
   obtain⟨i0,hi,hz0,hz1,hz2⟩:=info_parts Tryz.infoNode
   rw[hz rfl]at hx
   refine wpList_append_own_none hgd s x 59 ho base 97 i0 4 Tryz.underlying59 hi sv 1 (ncells [n]) hs hown.1 hx ?_
   exact h sv w hown (Below.refl _ _)
 · obtain⟨g,cap,rfl,_,_,_,_,hN,_⟩:=hF.slice hE
   refine append_nodes w hgd s x ho base sv [n] hs hown F F.length rfl g 0 cap hN hx (by simp;omega) hbase ?_
   intro v' w' h1 h2
   exact h v' w' h1 h2.bel
theorem lit_row (w:World)(base g:Nat)(n:Nd)(hn:n.wf)(hg:w.heap[g]? =some (.cells #[.int .i64 n.op,.int .i64 n.n,.string n.s,.string n.t] 97 (0,0)))(hb:base≤g):ON w base (.slice (some ⟨g,0,none⟩) 1 1) [n]:=
 ⟨⟨rfl,.inr ⟨g,1, #[.int .i64 n.op,.int .i64 n.n,.string n.s,.string n.t],rfl,hb,hg,Nat.le_refl _,by unfold maxLen;omega,rfl,rfl⟩⟩,fun x hx=>by simp at hx;subst hx;exact hn⟩
theorem join_any (n:Nd)(vs:List (List Nd))(p:Option Addr)(c:Nat)(w:World)(hn:n.wf)(hv:LL w p vs)(hne:∀v∈vs,v≠[])(hl:vs.flatten.length≤1000)(hc:vs.length≤1000):
 Calls Tryz.prog 144 #[ndV n,.slice p vs.length c] w fun e w'=>(∃q cc,e= .returned (.slice q (vs.flatten.length+1) cc)∧NT w' 0 q (n::vs.flatten)∧vs.flatten.length+1≤cc∧cc≤maxLen)∧Below w.heap.size w w':=by
 have HC:=fun w' (hb:Below w.heap.size w w')=>concatN_any vs p c w' (hv.up hb) hne hl hc
 generalize hF:vs.flatten=F at *
 have HZ:Hid (F=[]→vs=[]):=fun h=>by
  cases vs with
  | nil=>rfl
  | cons v r=>
    rw[List.flatten_cons]at hF
    have:=hne v (List.mem_cons_self ..)
    rw[h]at hF
    exact absurd (List.append_eq_nil_iff.1 hF).1 this
 clear hF hne hv
 unfold ndV
 go_enter Tryz.func144,Tryz.ntmps144
 go_wp2
 have hb0:Below w.heap.size w (w.alloc (.cells #[.int .i64 n.op,.int .i64 n.n,.string n.s,.string n.t] 97)).drew:=((Below.refl _ _).alloc (Nat.le_refl _) _).drew
 have hz0:(w.alloc (.cells #[.int .i64 n.op,.int .i64 n.n,.string n.s,.string n.t] 97)).drew.heap.size=w.heap.size+1:=by simp
 have hg0:(w.alloc (.cells #[.int .i64 n.op,.int .i64 n.n,.string n.s,.string n.t] 97)).drew.heap[w.heap.size]? =some (.cells #[.int .i64 n.op,.int .i64 n.n,.string n.s,.string n.t] 97 (0,0)):=heap_alloc_new _ _
 refine wp_region_any (by kernel_rfl) ?_
 change wpAny _ _ _ _ _ _ _ (World.drew _)
 generalize (w.alloc (.cells #[.int .i64 n.op,.int .i64 n.n,.string n.s,.string n.t] 97)).drew=w0 at *
 have C0:∀w':World,w'.heap[w.heap.size]? =some (.cells #[.int .i64 n.op,.int .i64 n.n,.string n.s,.string n.t] 97 (0,0))→w'.cell? ⟨w.heap.size,0,none⟩=some (.int .i64 n.op)∧w'.cell? ⟨w.heap.size,1,none⟩=some (.int .i64 n.n)∧w'.cell? ⟨w.heap.size,2,none⟩=some (.string n.s)∧w'.cell? ⟨w.heap.size,3,none⟩=some (.string n.t):=fun w' h=>by
  simp[World.cell?, h]
 refine wpAny_take (i:=2) (v:=?_) rfl (by kernel_rfl) (by kernel_rfl) (by kernel_rfl) (fun _ _ _ h=>h) (Or.inl ⟨by rfl,?_⟩) ?_
 rotate_left
 · intro w;go_simp;with_reducible rfl
 refine wpAny_ready (rs:=[0,3]) (by kernel_rfl) (by simp) ?_
 refine AllReady.cons rfl (fun K hK=>?_) (AllReady.cons rfl (fun K hK=>?_) AllReady.nil)
 · obtain⟨a0,a1,a2,a3⟩:=C0 w0 hg0
   go_simp
   refine hK _ _ ?_
   clear hK K
   refine wpAny_ready (rs:=[1,3]) (by kernel_rfl) (by simp) ?_
   refine AllReady.cons rfl (fun K hK=>?_) (AllReady.cons rfl (fun K hK=>?_) AllReady.nil)
   · go_simp
     refine hK _ _ ?_
     clear hK K
     have hb1:Below w.heap.size w (w0.alloc (.cells #[.int .i64 n.op,.int .i64 n.n,.string n.s,.string n.t] 97)):=hb0.trans ((Below.refl _ _).alloc (by omega) _)
     have hb01:Below w0.heap.size w0 (w0.alloc (.cells #[.int .i64 n.op,.int .i64 n.n,.string n.s,.string n.t] 97)):=(Below.refl _ _).alloc (Nat.le_refl _) _
     have hg1:(w0.alloc (.cells #[.int .i64 n.op,.int .i64 n.n,.string n.s,.string n.t] 97)).heap[w.heap.size+1]? =some (.cells #[.int .i64 n.op,.int .i64 n.n,.string n.s,.string n.t] 97 (0,0)):=by rw[←hz0];exact heap_alloc_new _ _
     have hz1:(w0.alloc (.cells #[.int .i64 n.op,.int .i64 n.n,.string n.s,.string n.t] 97)).heap.size=w.heap.size+2:=by simp[hz0]
     generalize (w0.alloc (.cells #[.int .i64 n.op,.int .i64 n.n,.string n.s,.string n.t] 97))=w1 at *
     refine wpAny_ready (rs:=[3]) (by kernel_rfl) (by simp) ?_
     refine AllReady.cons rfl (fun K hK=>?_) AllReady.nil
     go_simp
     refine(HC w1 hb1).mono ?_
     rintro e w2 ⟨⟨v,rfl,hcon,hzv⟩,hb2⟩
     have hb3:Below w.heap.size w w2:=hb1.trans (hb2.mono hb1.size)
     have hg2:=(hb2.block (w.heap.size+1) (by omega)).trans hg1
     refine hK _ _ ?_
     clear hK K
     refine wpAny_of_seq (ops:= #[?a0,?a1,?a2,?a3,?a4,?a5]) [?a4,?a5] 4 _ _ _ (fun j=>?_) (by kernel_rfl) ?_
     · match j with
       | 0=>rfl
       | 1=>rfl
       | j+2=>simp;omega
     refine append_join w2 rfl (.tmp 6) (.tmp 8) rfl w.heap.size _ n rfl (lit_row w2 w.heap.size (w.heap.size+1) n hn hg2 (by omega)) v F rfl (hcon.mono (Nat.zero_le _)) (fun h=>hzv (HZ.out h)) hl hb3.size ?_
     intro v' w' hon' hb'
     obtain⟨q',c',rfl,hnt,hle,hmx⟩:=hon'.value
     have HNT:Hid _:=hnt
     have HB:Hid (Below w.heap.size w w'):=hb3.trans hb'
     clear hnt hb' hon'
     simp only[List.length_cons]at *
     go_wp2
     go_ret
     exact⟨⟨q',c',rfl,HNT.out,hle,hmx⟩,HB.out⟩
   · go_simp
     refine(HC w0 hb0).mono ?_
     rintro e w1 ⟨⟨v,rfl,hcon,hzv⟩,hb1⟩
     have hb2:Below w.heap.size w w1:=hb0.trans (hb1.mono hb0.size)
     refine hK _ _ ?_
     clear hK K
     refine wpAny_ready (rs:=[1]) (by kernel_rfl) (by simp) ?_
     refine AllReady.cons rfl (fun K hK=>?_) AllReady.nil
     go_simp
     have hb3:Below w.heap.size w (w1.alloc (.cells #[.int .i64 n.op,.int .i64 n.n,.string n.s,.string n.t] 97)):=hb2.trans ((Below.refl _ _).alloc hb2.size _)
     have hb4:Below w1.heap.size w1 (w1.alloc (.cells #[.int .i64 n.op,.int .i64 n.n,.string n.s,.string n.t] 97)):=(Below.refl _ _).alloc (Nat.le_refl _) _
     have hg2:(w1.alloc (.cells #[.int .i64 n.op,.int .i64 n.n,.string n.s,.string n.t] 97)).heap[w1.heap.size]? =some (.cells #[.int .i64 n.op,.int .i64 n.n,.string n.s,.string n.t] 97 (0,0)):=heap_alloc_new _ _
     have hcon2:=hcon.below hb4
     generalize (w1.alloc (.cells #[.int .i64 n.op,.int .i64 n.n,.string n.s,.string n.t] 97))=w2 at *
     refine hK _ _ ?_
     clear hK K
     refine wpAny_of_seq (ops:= #[?a0,?a1,?a2,?a3,?a4,?a5]) [?a4,?a5] 4 _ _ _ (fun j=>?_) (by kernel_rfl) ?_
     · match j with
       | 0=>rfl
       | 1=>rfl
       | j+2=>simp;omega
     refine append_join w2 rfl (.tmp 6) (.tmp 8) rfl w.heap.size _ n rfl (lit_row w2 w.heap.size w1.heap.size n hn hg2 hb2.size) v F rfl (hcon2.mono (Nat.zero_le _)) (fun h=>hzv (HZ.out h)) hl hb3.size ?_
     intro v' w' hon' hb'
     obtain⟨q',c',rfl,hnt,hle,hmx⟩:=hon'.value
     have HNT:Hid _:=hnt
     have HB:Hid (Below w.heap.size w w'):=hb3.trans hb'
     clear hnt hb' hon'
     simp only[List.length_cons]at *
     go_wp2
     go_ret
     exact⟨⟨q',c',rfl,HNT.out,hle,hmx⟩,HB.out⟩
 · go_simp
   refine(HC w0 hb0).mono ?_
   rintro e w1 ⟨⟨v,rfl,hcon,hzv⟩,hb1⟩
   have hb2:Below w.heap.size w w1:=hb0.trans (hb1.mono hb0.size)
   refine hK _ _ ?_
   clear hK K
   refine wpAny_ready (rs:=[0]) (by kernel_rfl) (by simp) ?_
   refine AllReady.cons rfl (fun K hK=>?_) AllReady.nil
   obtain⟨a0,a1,a2,a3⟩:=C0 w1 ((hb1.block w.heap.size (by omega)).trans hg0)
   go_simp
   refine hK _ _ ?_
   clear hK K
   refine wpAny_ready (rs:=[1]) (by kernel_rfl) (by simp) ?_
   refine AllReady.cons rfl (fun K hK=>?_) AllReady.nil
   go_simp
   have hb3:Below w.heap.size w (w1.alloc (.cells #[.int .i64 n.op,.int .i64 n.n,.string n.s,.string n.t] 97)):=hb2.trans ((Below.refl _ _).alloc hb2.size _)
   have hb4:Below w1.heap.size w1 (w1.alloc (.cells #[.int .i64 n.op,.int .i64 n.n,.string n.s,.string n.t] 97)):=(Below.refl _ _).alloc (Nat.le_refl _) _
   have hg2:(w1.alloc (.cells #[.int .i64 n.op,.int .i64 n.n,.string n.s,.string n.t] 97)).heap[w1.heap.size]? =some (.cells #[.int .i64 n.op,.int .i64 n.n,.string n.s,.string n.t] 97 (0,0)):=heap_alloc_new _ _
   have hcon2:=hcon.below hb4
   generalize (w1.alloc (.cells #[.int .i64 n.op,.int .i64 n.n,.string n.s,.string n.t] 97))=w2 at *
   refine hK _ _ ?_
   clear hK K
   refine wpAny_of_seq (ops:= #[?a0,?a1,?a2,?a3,?a4,?a5]) [?a4,?a5] 4 _ _ _ (fun j=>?_) (by kernel_rfl) ?_
   · match j with
     | 0=>rfl
     | 1=>rfl
     | j+2=>simp;omega
   refine append_join w2 rfl (.tmp 6) (.tmp 8) rfl w.heap.size _ n rfl (lit_row w2 w.heap.size w1.heap.size n hn hg2 hb2.size) v F rfl (hcon2.mono (Nat.zero_le _)) (fun h=>hzv (HZ.out h)) hl hb3.size ?_
   intro v' w' hon' hb'
   obtain⟨q',c',rfl,hnt,hle,hmx⟩:=hon'.value
   have HNT:Hid _:=hnt
   have HB:Hid (Below w.heap.size w w'):=hb3.trans hb'
   clear hnt hb' hon'
   simp only[List.length_cons]at *
   go_wp2
   go_ret
   exact⟨⟨q',c',rfl,HNT.out,hle,hmx⟩,HB.out⟩
def Made (w:World)(L:List Nd)(e:Ending)(w':World):Prop:=(∃q cc,e= .returned (.slice q L.length cc)∧NT w' 0 q L∧L.length≤cc∧cc≤maxLen)∧Below w.heap.size w w'
theorem LL.lay (w:World)(T:TypeId)(cs:List Value)(vs:List (List Nd))(hl:cs.length=vs.length)(h:∀(i:Nat) (u:Value) (v:List Nd),cs[i]? =some u→vs[i]? =some v→∃q c,u= .slice q v.length c∧NL w q v∧v.length≤c∧c≤maxLen):
 LL (w.alloc (.cells cs.toArray T)) (some ⟨w.heap.size,0,none⟩) vs:=by
 refine .inr ⟨_,_,rfl,by simp,fun i v hv=>?_⟩
 have hi:i<cs.length:=by rw[hl];exact(List.getElem?_eq_some_iff.1 hv).1
 obtain⟨q,c,h1,h2,h3,h4⟩:=h i cs[i] v (List.getElem?_eq_getElem hi) hv
 refine⟨q,c,?_,h2.up ((Below.refl _ _).alloc (Nat.le_refl _) _),h3,h4⟩
 rw[←h1]
 have:(w.alloc (.cells cs.toArray T)).heap[w.heap.size]? =some (.cells cs.toArray T (0,0)):=heap_alloc_new _ _
 show(match (w.alloc (.cells cs.toArray T)).heap[w.heap.size]? with | some (.cells c _ _)=>c[0+i]? | _=>none)=_
 rw[this]
 simp[hi]
theorem join0 (n:Nd)(w:World)(hn:n.wf):Calls Tryz.prog 144 #[ndV n,.slice none 0 0] w fun e w'=>Made w [n] e w':=by
 refine(join_any n [] none 0 w hn (.inl rfl) (fun _ h=>by cases h) (by simp) (by simp)).mono ?_
 rintro e w' ⟨⟨q,cc,rfl,h1,h2,h3⟩,hb⟩
 exact⟨⟨q,cc,rfl,h1,h2,h3⟩,hb⟩
theorem join1 (n:Nd)(a:List Nd)(q:Option Addr)(c:Nat)(T:TypeId)(w:World)(hn:n.wf)(ha:NL w q a)(hac:a.length≤c)(hcm:c≤maxLen)(hne:a≠[])(hl:a.length≤500):
 Calls Tryz.prog 144 #[ndV n,.slice (some ⟨w.heap.size,0,none⟩) 1 1] (w.alloc (.cells #[.slice q a.length c] T)) fun e w'=>Made w (n::a) e w':=by
 have hb0:Below w.heap.size w (w.alloc (.cells #[.slice q a.length c] T)):=(Below.refl _ _).alloc (Nat.le_refl _) _
 have hLL:=LL.lay w T [.slice q a.length c] [a] rfl (fun i u v hu hv=>by
  match i,hu,hv with
  | 0,hu,hv=>simp at hu hv;subst hu hv;exact⟨q,c,rfl,ha,hac,hcm⟩)
 refine(join_any n [a] _ 1 _ hn hLL (fun v h=>by simp at h;subst h;exact hne) (by simp;omega) (by simp)).mono ?_
 rintro e w' ⟨⟨q',cc,rfl,h1,h2,h3⟩,hb⟩
 have hf:[a].flatten=a:=by simp
 rw[hf]at h1 h2 ⊢
 exact⟨⟨q',cc,rfl,h1,h2,h3⟩,hb0.trans (hb.mono hb0.size)⟩
theorem join2 (n:Nd)(a b:List Nd)(q q2:Option Addr)(c c2:Nat)(T:TypeId)(w:World)(hn:n.wf)(ha:NL w q a)(hac:a.length≤c)(hcm:c≤maxLen)(hne:a≠[])(hl:a.length≤300)
 (ha2:NL w q2 b) (hac2:b.length≤c2) (hcm2:c2≤maxLen) (hne2:b≠[]) (hl2:b.length≤300):
 Calls Tryz.prog 144 #[ndV n,.slice (some ⟨w.heap.size,0,none⟩) 2 2] (w.alloc (.cells #[.slice q a.length c,.slice q2 b.length c2] T)) fun e w'=>Made w (n::(a++b)) e w':=by
 have hb0:Below w.heap.size w (w.alloc (.cells #[.slice q a.length c,.slice q2 b.length c2] T)):=(Below.refl _ _).alloc (Nat.le_refl _) _
 have hLL:=LL.lay w T [.slice q a.length c,.slice q2 b.length c2] [a,b] rfl (fun i u v hu hv=>by
  match i,hu,hv with
  | 0,hu,hv=>simp at hu hv;subst hu hv;exact⟨q,c,rfl,ha,hac,hcm⟩
  | 1,hu,hv=>simp at hu hv;subst hu hv;exact⟨q2,c2,rfl,ha2,hac2,hcm2⟩)
 refine(join_any n [a,b] _ 2 _ hn hLL (fun v h=>by simp at h;rcases h with h | h<;>subst h<;>assumption) (by simp;omega) (by simp)).mono ?_
 rintro e w' ⟨⟨q',cc,rfl,h1,h2,h3⟩,hb⟩
 have hf:[a,b].flatten=a++b:=by simp
 rw[hf]at h1 h2 ⊢
 exact⟨⟨q',cc,rfl,h1,h2,h3⟩,hb0.trans (hb.mono hb0.size)⟩
theorem join3 (n:Nd)(a b d:List Nd)(q q2 q3:Option Addr)(c c2 c3:Nat)(T:TypeId)(w:World)(hn:n.wf)(ha:NL w q a)(hac:a.length≤c)(hcm:c≤maxLen)(hne:a≠[])(hl:a.length≤300)
 (ha2:NL w q2 b) (hac2:b.length≤c2) (hcm2:c2≤maxLen) (hne2:b≠[]) (hl2:b.length≤300) (ha3:NL w q3 d) (hac3:d.length≤c3) (hcm3:c3≤maxLen) (hne3:d≠[]) (hl3:d.length≤300):
 Calls Tryz.prog 144 #[ndV n,.slice (some ⟨w.heap.size,0,none⟩) 3 3] (w.alloc (.cells #[.slice q a.length c,.slice q2 b.length c2,.slice q3 d.length c3] T)) fun e w'=>Made w (n::(a++(b++d))) e w':=by
 have hb0:Below w.heap.size w (w.alloc (.cells #[.slice q a.length c,.slice q2 b.length c2,.slice q3 d.length c3] T)):=(Below.refl _ _).alloc (Nat.le_refl _) _
 have hLL:=LL.lay w T [.slice q a.length c,.slice q2 b.length c2,.slice q3 d.length c3] [a,b,d] rfl (fun i u v hu hv=>by
  match i,hu,hv with
  | 0,hu,hv=>simp at hu hv;subst hu hv;exact⟨q,c,rfl,ha,hac,hcm⟩
  | 1,hu,hv=>simp at hu hv;subst hu hv;exact⟨q2,c2,rfl,ha2,hac2,hcm2⟩
  | 2,hu,hv=>simp at hu hv;subst hu hv;exact⟨q3,c3,rfl,ha3,hac3,hcm3⟩)
 refine(join_any n [a,b,d] _ 3 _ hn hLL (fun v h=>by simp at h;rcases h with h | h | h<;>subst h<;>assumption) (by simp;omega) (by simp)).mono ?_
 rintro e w' ⟨⟨q',cc,rfl,h1,h2,h3⟩,hb⟩
 have hf:[a,b,d].flatten=a++(b++d):=by simp
 rw[hf]at h1 h2 ⊢
 exact⟨⟨q',cc,rfl,h1,h2,h3⟩,hb0.trans (hb.mono hb0.size)⟩
theorem opN_wf {op:Int}:(opN op).wf:=⟨Nat.zero_le _,Nat.zero_le _,by show(0:Int)≤_;decide⟩
def OW (w:World)(base:Nat)(v:Value)(vs:List (List Nd)):Prop:=
 ∃xs,Row1 w base 59 v xs∧xs.length=vs.length∧∀(i:Nat) u L,xs[i]? =some u→vs[i]? =some L→∃q c,u= .slice q L.length c∧NT w 0 q L∧L.length≤c∧c≤maxLen
theorem OW.nil (w:World)(base:Nat):OW w base (.slice none 0 0) []:=⟨[],Row1.nil _ _ _,rfl,fun i u L h=>by simp at h⟩
theorem OW.ol {w:World}{base:Nat}{v:Value}{vs:List (List Nd)}(h:OW w base v vs):OL w base v vs:=by
 obtain⟨xs,h1,h2,h3⟩:=h
 exact⟨xs,h1,h2,fun i u L hu hL=>by
  obtain⟨q,c,e1,e2,e3⟩:=h3 i u L hu hL
  exact⟨q,c,e1,e2.any,e3⟩⟩
def Nodal (w w':World):Prop:=w.heap.size≤w'.heap.size∧∀b,(Typed w b 97∨Typed w b 59)→w'.heap[b]? =w.heap[b]?
theorem Nodal.nt {w w':World}{q:Option Addr}{L:List Nd}(k:Nodal w w')(h:NT w 0 q L):NT w' 0 q L:=by
 obtain⟨h1,h2⟩:=h
 rcases h2 with h2 | ⟨b,o,h2,h3⟩
 · exact⟨.inl h2,.inl h2⟩
 · rcases h3 with h3 | h3
   · omega
   · have hb:=k.2 b (.inl h3)
     refine⟨?_,.inr ⟨b,o,h2,.inr ?_⟩⟩
     · rcases h1 with h1 | ⟨b',o',e,h4,h5⟩
       · exact .inl h1
       · rw[h2]at e;cases e
         refine .inr ⟨b,o,h2,Nat.lt_of_lt_of_le h4 k.1,fun i x hi=>?_⟩
         have q:∀o,w'.cell? ⟨b,o,none⟩=w.cell? ⟨b,o,none⟩:=fun o=>World.cell?_of_block hb
         simp only[q]
         exact h5 i x hi
     · obtain⟨cur,fr,hh⟩:=h3
       exact⟨cur,fr,hb.trans hh⟩
theorem OW.nodal {w w':World}{base:Nat}{v:Value}{vs:List (List Nd)}(h:OW w base v vs)(k:Nodal w w'):OW w' base v vs:=by
 obtain⟨xs,h1,h2,h3⟩:=h
 refine⟨xs,⟨h1.1,?_⟩,h2,fun i u L hu hL=>?_⟩
 · rcases h1.2 with hn | ⟨g,cap,cur,rfl,hb,hgg,rest⟩
   · exact .inl hn
   · exact .inr ⟨g,cap,cur,rfl,hb,(k.2 g (.inr ⟨cur,_,hgg⟩)).trans hgg,rest⟩
 · obtain⟨q,c,e1,e2,e3⟩:=h3 i u L hu hL
   exact⟨q,c,e1,k.nt e2,e3⟩
theorem Nodal.below {w w':World}(h:Below w.heap.size w w'):Nodal w w':=⟨h.size,fun b hb=>h.block b (hb.elim Typed.lt Typed.lt)⟩
theorem Nodal.bx {w w':World}{B:Nat}{p:Option Addr}{c:Nat}{ts:List Tk}{k:Nat}(hr:RS w B p c ts k)(hx:BX B w w'):Nodal w w':=by
 refine⟨hx.size,fun b hb=>?_⟩
 have hT:Typed w B 170:=⟨_,_,hr.blk⟩
 rcases hb with hb | hb
 · exact hx.block b hb.lt (hb.ne hT (by decide))
 · exact hx.block b hb.lt (hb.ne hT (by decide))
theorem Nodal.trans {a b c:World}(h:Nodal a b)(k:Nodal b c):Nodal a c:=by
 refine⟨Nat.le_trans h.1 k.1,fun x hx=>?_⟩
 have h1:=h.2 x hx
 have hx2:Typed b x 97∨Typed b x 59:=by
  rcases hx with⟨cu,fr,hh⟩ | ⟨cu,fr,hh⟩
  · exact .inl ⟨cu,fr,h1.trans hh⟩
  · exact .inr ⟨cu,fr,h1.trans hh⟩
 exact(k.2 x hx2).trans h1
theorem append_ow (w:World){ops:Array Oper}{rest:List Oper}{o:Oper}{a:Act}{Q:Exit→Act→World→Prop}(hgd:o.guard=none)(s x:Operand)
 (ho:o.op= .call { callee:=.builtin .append,args:= #[s,x],argTypes:= #[212,212] })
 (base:Nat) (v:Value) (vs:List (List Nd)) (hs:a.eval s=v) (hown:OW w base v vs) (L:List Nd) (q:Option Addr) (c:Nat) (hN:NT w 0 q L) (hlc:L.length≤c) (hcm:c≤maxLen)
 (hx:a.eval x= .slice (some ⟨w.heap.size,0,none⟩) 1 1) (hlen:vs.length+1≤1099511627776) (hbase:base≤w.heap.size)
 (h:∀v' w',OW w' base v' (vs++[L])→Kept base 59 w w'→wpList Tryz.prog ops Q rest (a.put o.dst v') w'):wpList Tryz.prog ops Q (o::rest) a (w.alloc (.cells #[.slice q L.length c] 59)):=by
 obtain⟨xs,hr,hl,he⟩:=hown
 refine append_cell w hgd s x 212 59 ho Tryz.underlying212 (.slice none 0 0) 24 Tryz.infoList rfl base v xs hs hr (.slice q L.length c) rfl hx (by unfold maxLen;omega) (by omega) hbase ?_
 intro v' w' h1 k
 have k0:Kept 0 59 w w':=⟨k.bel.mono (Nat.zero_le _),k.typed⟩
 refine h v' w' ⟨xs++[.slice q L.length c],h1,by simp[hl],fun i u L' hu hL'=>?_⟩ k
 by_cases hi:i<xs.length
 · rw[List.getElem?_append_left hi]at hu
   rw[List.getElem?_append_left (by omega)]at hL'
   obtain⟨q',c',e1,e2,e3⟩:=he i u L' hu hL'
   exact⟨q',c',e1,e2.kept k0 (by decide),e3⟩
 · have hi2:i=xs.length:=by
    have:=(List.getElem?_eq_some_iff.1 hu).1
    simp at this;omega
   subst hi2
   rw[List.getElem?_append_right (Nat.le_refl _)]at hu
   rw[List.getElem?_append_right (by omega),hl]at hL'
   simp at hu hL'
   subst hu hL'
   exact⟨q,c,rfl,hN.kept k0 (by decide),hlc,hcm⟩
theorem RS.kept {w w':World}{B:Nat}{p:Option Addr}{c:Nat}{ts:List Tk}{k:Nat}{base:Nat}{e:TypeId}(h:RS w B p c ts k)(hk:Kept base e w w')(hB:B<base)(hp:ts=[]∨∀a,p=some a→a.block<base):RS w' B p c ts k:=by
 refine⟨(hk.bel.block B hB).trans h.blk,?_,h.ne,h.le,h.len,h.all,?_,h.ge⟩
 · rcases h.tk with h1 | ⟨b,off,h1,h2,h3⟩
   · exact .inl h1
   · refine .inr ⟨b,off,h1,Nat.lt_of_lt_of_le h2 hk.bel.size,fun i x hx=>?_⟩
     have hlow:b<base:=by
      rcases hp with hp | hp
      · rw[hp]at hx;simp at hx
      · exact hp ⟨b,off,none⟩ h1
     have q:∀o,w'.cell? ⟨b,o,none⟩=w.cell? ⟨b,o,none⟩:=fun o=>hk.bel.cell (p:=⟨b,o,none⟩) hlow
     simp only[q]
     exact h3 i x hx
 · obtain⟨ev,h1,h2⟩:=h.er
   have hge:=h.ge
   exact⟨ev,(hk.bel.cell (p:=⟨8,0,none⟩) (by show 8<base;omega)).trans h1,h2⟩
theorem RS.low {w:World}{B:Nat}{p:Option Addr}{c:Nat}{ts:List Tk}{k:Nat}(h:RS w B p c ts k):ts=[]∨∀a,p=some a→a.block<w.heap.size:=by
 rcases h.tk with h1 | ⟨b,off,h1,h2,h3⟩
 · exact .inl h1
 · exact .inr fun a ha=>by rw[h1]at ha;cases ha;exact h2
theorem BX.kept {B:Nat}{w wr w':World}{e:TypeId}(h:BX B w wr)(hk:Kept w.heap.size e wr w'):BX B w w':=
 ⟨hk.bel.os.trans h.os,hk.bel.tape.trans h.tape,hk.bel.output.trans h.output,Nat.le_trans h.size hk.bel.size,fun i hi hn=>(hk.bel.block i hi).trans (h.block i hi hn)⟩
def Reads (n lvl g:Nat)(B:Nat)(p:Option Addr)(c:Nat)(ts:List Tk):Prop:=
 ∀(W:World) (k:Nat) (res:PRes),RS W B p c ts k→pE n lvl (ts.drop k)=some res→Calls Tryz.prog g #[.pointer (some ⟨B,0,none⟩)] W fun e w'=>EndP B p c ts W res e w'
theorem NT.below {w w':World}{q:Option Addr}{L:List Nd}(h:NT w 0 q L)(hb:Below w.heap.size w w'):NT w' 0 q L:=h.kept (e:=300) ⟨hb.mono (Nat.zero_le _),fun b f _ ht=>hb.block b ht.lt⟩ (by decide)
theorem row_any (n lvl g:Nat)(B:Nat)(p:Option Addr)(c:Nat)(ts:List Tk)(w:World)(k b m:Nat)(f:List UInt8→Option Int)(res:PRes)(hl:lftL lvl)
 (eg:∀args w,(callFunc g args).run Tryz.prog w= .ok (.enter g args) w) (hp:Reads n (lvl+1) g B p c ts) (hm:OM w b m f)
 (hf:∀t,spB t=true→f (its t)=if lvlS lvl t=true then some (opOf t)else none) (hf0:f []=none) (h:RS w B p c ts k) (hres:pE (n+1) lvl (ts.drop k)=some res):
 Calls Tryz.prog 174 #[.pointer (some ⟨B,0,none⟩),.func (.func g) #[.pointer (some ⟨B,0,none⟩)] #[],.map (some b)] w fun e w'=>EndP B p c ts w res e w':=by
 rw[pE_left hl]at hres
 have hle:=h.len
 have hkd:AllK (ts.drop k):=fun t ht=>(h.all.kinds) t (List.mem_of_mem_drop ht)
 have hll:lvl+1≤8:=by unfold lftL at hl;omega
 have hdl:(ts.drop k).length≤300:=by rw[List.length_drop];omega
 have HF:Hid _:=hf
 rcases andR_some hres with⟨e0,h1,rfl⟩ | ⟨a0,r0,h1,h2⟩
 · have H1:=hp w k _ h h1
   clear hf hres h1
   go_enter Tryz.func174,Tryz.ntmps174
   go_wp2_with (go_at_fn g;refine H1.mono ?_;rintro e w1 ⟨rfl,hr1,hx1⟩)
   exact⟨rfl,rfl,hr1,hx1⟩
 · have H1:=hp w k _ h h1
   obtain⟨hlen,hne0,a1,hsuf⟩:=pE_len hkd hll h1
   have HS:Hid _:=drop_suffix hsuf
   have HM:Hid (OM w b m f):=hm
   have HH:Hid _:=h
   have HP:Hid _:=h2
   clear hf hres h1 hm h2 hsuf a1
   go_enter Tryz.func174,Tryz.ntmps174
   go_wp2_with (go_at_fn g;refine H1.mono ?_;rintro e w1 ⟨⟨q1,c1,rfl,hnt1,hc1,hcm1⟩,hr1,hx1⟩)
   go_loopw [7] (fun sv wr=>∃(k':Nat) (a:List Nd) (q:Option Addr) (cc:Nat),sv= .slice q a.length cc∧Hid (NT wr 0 q a)∧a.length≤cc∧cc≤maxLen∧Hid (RS wr B p c ts k')∧
    Hid (pL n lvl a (ts.drop k')=some res)∧Hid (a≠[])∧a.length+(ts.length-k')≤300∧Hid (BX B w wr)) (fun _ wr=>ts.length-(intOf ((wr.cell? ⟨B,1,none⟩).getD undef)).toNat)
   case atStart=>
    exact⟨ts.length-r0.length,a0,q1,c1,rfl,hnt1,hc1,hcm1,hr1,by rw[HS.out];exact HP.out,hne0,by rw[List.length_drop]at hlen;omega,hx1⟩
   case round=>
    obtain⟨k',a,q,cc,rfl,HNT,hac,hcm,HR,HPL,HA,hal,HX⟩:=hrel
    have hk':=HR.out.le
    have HA0:=ahead0_any wr B p c ts k' HR.out
    have hme:(intOf ((wr.cell? ⟨B,1,none⟩).getD undef)).toNat=k':=by rw[HR.out.c1];simp[intOf]
    by_cases hlt:k'<ts.length
    · rw[hdT_at hlt]at HA0
      have hsp:=HR.out.all ts[k'] (List.getElem_mem _)
      have HD:Hid (ts.drop k'=ts[k']::ts.drop (k'+1)):=List.drop_eq_getElem_cons hlt
      have HFT:Hid _:=HF.out _ hsp
      have hsz:ts[k'].s.size≤maxLen:=by have:=spB_size hsp;unfold Tk.l at this;unfold maxLen;simp at this;omega
      generalize ts[k']=t at *
      have hisz:(itB t).size≤maxLen:=by
       unfold itB;split
       · exact hsz
       · exact Nat.zero_le _
      have HI:=itself_any t
      unfold tokV at HA0 HI
      have HIB:Hid ((itB t).data.toList=its t):=itB_its t
      have hkk:(k':Int)≤300:=by omega
      by_cases hs:lvlS lvl t=true
      · have hft:f (itB t).data.toList=some (opOf t):=by rw[HIB.out,HFT.out,if_pos hs]
        have hpl:=HPL.out
        rw[HD.out]at hpl
        have hkd2:AllK (ts.drop (k'+1)):=fun t ht=>(HR.out.all.kinds) t (List.mem_of_mem_drop ht)
        rcases pL_go hs hpl with⟨e1,g1,rfl⟩ | ⟨b1,r1,g1,g2⟩
        · have HG:Hid _:=g1
          clear g1 hpl hs
          go_wp2_with (first
          | (go_at_call 141;refine HA0.mono ?_;rintro e w2 ⟨rfl,hb2⟩)
          | (go_at_call 140;refine(HI _).mono ?_;rintro e w3 ⟨rfl,hb3⟩;have HM3:Hid (OM w3 b m f):=((HM.out.bx HH.out HX.out).up hb2).up hb3;have HR3:Hid _:=(HR.out.up hb2).up hb3;have HX3:Hid (BX B w w3):=(HX.out.up hb2).up hb3;have c13:=HR3.out.c1;have f13:=HR3.out.fz)
          | (at_lookup;refine lookup_op w3 rfl _ _ rfl b m f rfl HM3.out (itB t) rfl hisz ?_;rw[hft])
            | (go_at_fn g;refine(hp _ _ _ (HR3.out.set (k':=k'+1) (by omega)) HG.out).mono ?_;rintro e w4 ⟨rfl,hr4,hx4⟩))
          exact⟨rfl,rfl,hr4,(HX3.out.set 1 _).trans hx4⟩
        · obtain⟨glen,gne,ga,gsuf⟩:=pE_len hkd2 hll g1
          rw[List.length_drop]at glen
          have HG:Hid _:=g1
          have HG2:Hid _:=g2
          have HSU:Hid _:=drop_suffix gsuf
          have HNE:Hid _:=gne
          clear g1 g2 gsuf hpl hs gne
          go_wp2_with (first
          | (go_at_call 141;refine HA0.mono ?_;rintro e w2 ⟨rfl,hb2⟩)
          | (go_at_call 140;refine(HI _).mono ?_;rintro e w3 ⟨rfl,hb3⟩;have HM3:Hid (OM w3 b m f):=((HM.out.bx HH.out HX.out).up hb2).up hb3;have HR3:Hid _:=(HR.out.up hb2).up hb3;have HX3:Hid (BX B w w3):=(HX.out.up hb2).up hb3;have c13:=HR3.out.c1;have f13:=HR3.out.fz)
          | (at_lookup;refine lookup_op w3 rfl _ _ rfl b m f rfl HM3.out (itB t) rfl hisz ?_;rw[hft])
            | (go_at_fn g;refine(hp _ _ _ (HR3.out.set (k':=k'+1) (by omega)) HG.out).mono ?_;rintro e w4 ⟨⟨q4,c4,rfl,hnt4,hc4,hcm4⟩,hr4,hx4⟩;simp only at hnt4 hc4 ⊢; have HNT4:Hid _:=hnt4;have HR4:Hid _:=hr4;have HX4:Hid (BX B w w4):=(HX3.out.set 1 _).trans hx4;have HA4:Hid (NT w4 0 q a):=(((HNT.out.below hb2).below hb3).bx HR3.out ((BX.refl _ _).set 1 _)).bx (HR3.out.set (k':=k'+1) (by omega)) hx4;clear hnt4 hr4 hx4)
            | (go_at_call 144;refine(join2 (opN (opOf t)) a b1 q q4 cc c4 _ w4 opN_wf HA4.out.1 hac hcm HA.out (by omega) HNT4.out.1 hc4 hcm4 HNE.out (by omega)).mono ?_;rintro e w5 ⟨⟨q5,c5,rfl,hnt5,hc5,hcm5⟩,hb5⟩))
          have hr5:=HR4.out.up hb5
          refine⟨⟨ts.length-r1.length,opN (opOf t)::(a++b1),q5,c5,by simp,hnt5,hc5,hcm5,hr5,by show pL _ _ _ _=_;rw[HSU.out];exact HG2.out,by show _≠_;simp,?_,HX4.out.up hb5⟩,?_⟩
          · simp;omega
          · rw[hr5.c1,HR.out.c1];simp[intOf];omega
      · have hft:f (itB t).data.toList=none:=by rw[HIB.out,HFT.out,if_neg hs]
        have HE:Hid (res= .ok (a,ts.drop k')):=pL_stop (fun u r e=>by rw[HD.out]at e;injection e with e1 _;subst e1;simpa using hs) HPL.out
        clear hs
        go_wp2_with (first
         | (go_at_call 141;refine HA0.mono ?_;rintro e w2 ⟨rfl,hb2⟩)
         | (go_at_call 140;refine(HI _).mono ?_;rintro e w3 ⟨rfl,hb3⟩;have HM3:Hid (OM w3 b m f):=((HM.out.bx HH.out HX.out).up hb2).up hb3)
         | (at_lookup;refine lookup_op w3 rfl _ _ rfl b m f rfl HM3.out (itB t) rfl hisz ?_;rw[hft]))
        go_ret
        rw[HE.out]
        refine⟨⟨q,cc,rfl,(HNT.out.below hb2).below hb3,hac,hcm⟩,?_,(HX.out.up hb2).up hb3⟩
        have e1:ts.length-(ts.drop k').length=k':=by rw[List.length_drop];omega
        simp only[e1]
        exact(HR.out.up hb2).up hb3
    · rw[hdT_end hlt]at HA0
      have HI:=itself_any bT
      have hisz:(itB bT).size≤maxLen:=Nat.zero_le _
      have hft:f (itB bT).data.toList=none:=hf0
      have HE:Hid (res= .ok (a,ts.drop k')):=pL_stop (fun u r e=>by rw[List.drop_of_length_le (by omega)]at e;cases e) HPL.out
      generalize bT=t at *
      unfold tokV at HA0 HI
      go_wp2_with (first
       | (go_at_call 141;refine HA0.mono ?_;rintro e w2 ⟨rfl,hb2⟩)
       | (go_at_call 140;refine(HI _).mono ?_;rintro e w3 ⟨rfl,hb3⟩;have HM3:Hid (OM w3 b m f):=((HM.out.bx HH.out HX.out).up hb2).up hb3)
       | (at_lookup;refine lookup_op w3 rfl _ _ rfl b m f rfl HM3.out (itB t) rfl hisz ?_;rw[hft]))
      go_ret
      rw[HE.out]
      refine⟨⟨q,cc,rfl,(HNT.out.below hb2).below hb3,hac,hcm⟩,?_,(HX.out.up hb2).up hb3⟩
      have e1:ts.length-(ts.drop k').length=k':=by rw[List.length_drop];omega
      simp only[e1]
      exact(HR.out.up hb2).up hb3
end Go.Proofs.YtjkepjbfgeldnaaGreatDoor
namespace Go.Proofs.YtjkepjbfgeldnaaGreatDoor
open Go.RowKit Go.Maps
set_option maxRecDepth 100000
theorem its_sgn {t:Tk}{c:UInt8}{w:List UInt8}(ht:spB t=true)(hc:letb c=false):its t=c::w↔sgn t (c::w)=true:=by
 have:=sayB_sgn (l:=[t]) (w:=w) (fun u hu=>by simp at hu;subst hu;exact ht) hc
 have h2:decide (its t=c::w)=sgn t (c::w):=this
 rw[←h2];simp
theorem its_nam {t:Tk}{c:UInt8}{w:List UInt8}(ht:spB t=true)(hc:letb c=true):its t=c::w↔nam t (c::w)=true:=by
 have:=sayB_nam (l:=[t]) (w:=w) (fun u hu=>by simp at hu;subst hu;exact ht) hc
 have h2:decide (its t=c::w)=nam t (c::w):=this
 rw[←h2];simp
theorem put_nil {f:List UInt8→Option Int}{c:UInt8}{w:List UInt8}{o:Int}(h:f []=none):putF f (c::w) o []=none:=by
 unfold putF;rw[if_neg (by simp)];exact h
theorem ors_op {t:Tk}(ht:spB t=true):putF noF [124,124] 12 (its t)=if lvlS 1 t=true then some (opOf t)else none:=by
 have hl:lvlS 1 t=sgn t [124,124]:=rfl
 rw[hl]
 unfold putF noF
 by_cases h:sgn t [124,124]=true
 · rw[if_pos ((its_sgn ht (by decide)).2 h),if_pos h]
   have:=(sgn_kind h).2
   unfold opOf;rw[this];rfl
 · rw[if_neg (fun e=>h ((its_sgn ht (by decide)).1 e)),if_neg h]
theorem ands_op {t:Tk}(ht:spB t=true):putF noF [38,38] 11 (its t)=if lvlS 2 t=true then some (opOf t)else none:=by
 have hl:lvlS 2 t=sgn t [38,38]:=rfl
 rw[hl]
 unfold putF noF
 by_cases h:sgn t [38,38]=true
 · rw[if_pos ((its_sgn ht (by decide)).2 h),if_pos h]
   have:=(sgn_kind h).2
   unfold opOf;rw[this];rfl
 · rw[if_neg (fun e=>h ((its_sgn ht (by decide)).1 e)),if_neg h]
theorem muls_op {t:Tk}(ht:spB t=true):putF noF [42] 19 (its t)=if lvlS 5 t=true then some (opOf t)else none:=by
 have hl:lvlS 5 t=sgn t [42]:=rfl
 rw[hl]
 unfold putF noF
 by_cases h:sgn t [42]=true
 · rw[if_pos ((its_sgn ht (by decide)).2 h),if_pos h]
   have:=(sgn_kind h).2
   unfold opOf;rw[this];rfl
 · rw[if_neg (fun e=>h ((its_sgn ht (by decide)).1 e)),if_neg h]
theorem sums_op {t:Tk}(ht:spB t=true):putF (putF noF [43] 17) [45] 18 (its t)=if lvlS 4 t=true then some (opOf t)else none:=by
 have hl:lvlS 4 t=(sgn t [43] || sgn t [45]):=rfl
 rw[hl]
 unfold putF noF
 by_cases h:sgn t [45]=true
 · rw[if_pos ((its_sgn ht (by decide)).2 h),if_pos (by rw[h];simp)]
   have:=(sgn_kind h).2
   unfold opOf;rw[this];rfl
 · rw[if_neg (fun e=>h ((its_sgn ht (by decide)).1 e))]
   by_cases h2:sgn t [43]=true
   · rw[if_pos ((its_sgn ht (by decide)).2 h2),if_pos (by rw[h2];simp)]
     have:=(sgn_kind h2).2
     unfold opOf;rw[this];rfl
   · rw[if_neg (fun e=>h2 ((its_sgn ht (by decide)).1 e)),if_neg (by simp[h,h2])]
def fnL (lvl:Nat):Nat:=match lvl with
 | 0=>117
 | 1=>142
 | 2=>175
 | 3=>193
 | 4=>205
 | 5=>212
 | 6=>219
 | 7=>226
 | _=>232
def AllR (n:Nat)(B:Nat)(p:Option Addr)(c:Nat)(ts:List Tk):Prop:=∀lvl,lvl≤8→Reads n lvl (fnL lvl) B p c ts
theorem EndP.from {B:Nat}{p:Option Addr}{c:Nat}{ts:List Tk}{w w1:World}{res:PRes}{e:Ending}{w':World}(hb:Below w.heap.size w w1)(h:EndP B p c ts w1 res e w'):EndP B p c ts w res e w':=by
 match res,h with
 | .ok x,⟨h1,h2,h3⟩=>exact⟨h1,h2,(BX.of_below hb).trans h3⟩
 | .error y,⟨h1,h2,h3⟩=>exact⟨h1,h2,(BX.of_below hb).trans h3⟩
theorem EndP.step {B:Nat}{p:Option Addr}{c:Nat}{ts:List Tk}{w w1:World}{res:PRes}{e:Ending}{w':World}(hb:BX B w w1)(h:EndP B p c ts w1 res e w'):EndP B p c ts w res e w':=by
 match res,h with
 | .ok x,⟨h1,h2,h3⟩=>exact⟨h1,h2,hb.trans h3⟩
 | .error y,⟨h1,h2,h3⟩=>exact⟨h1,h2,hb.trans h3⟩
theorem EndP.shape {B:Nat}{p:Option Addr}{c:Nat}{ts:List Tk}{w:World}{res:PRes}{e:Ending}{w':World}(h:EndP B p c ts w res e w'):(∃q n cc,e= .returned (.slice q n cc))∨∃y,e= .panicked (thrownP y):=by
 match res,h with
 | .ok x,⟨⟨q,cc,h1,_⟩,_⟩=>exact Or.inl ⟨q,_,cc,h1⟩
 | .error y,⟨h1,_⟩=>exact Or.inr ⟨_,h1⟩
theorem either_step (n:Nat)(B:Nat)(p:Option Addr)(c:Nat)(ts:List Tk)(ih:AllR n B p c ts):Reads (n+1) 1 142 B p c ts:=by
 intro w k res h hres
 have hmm:= @run_makeMap Tryz.prog
 have hmf:∀(fn:Fn) (first cap:Array Value) (w:World),(Instr.makeFunc fn first cap).run Tryz.prog w= .ok (.func fn first cap) w:=fun _ _ _ _=>rfl
 obtain⟨w1,r1,o1,g1⟩:=(OM.made w).put (by omega) ⟨#[124,124]⟩ (by decide) 12 (by decide) (by decide)
 have hb1:Below w.heap.size w w1:=grown_below ((Below.refl _ _).alloc (Nat.le_refl _) _) g1 (Nat.le_refl _)
 have H:=row_any n 1 (fnL 2) B p c ts w1 k w.heap.size 1 _ res (Or.inl rfl) (enters_of Tryz.func175 (by kernel_rfl) rfl) (ih 2 (by omega)) o1 (fun t ht=>ors_op ht) rfl (h.up hb1) hres
 have HE:Hid (∀e w',EndP B p c ts w1 res e w'→EndP B p c ts w res e w'):=fun e w' he=>EndP.from hb1 he
 clear hres g1 o1
 go_enter Tryz.func142,Tryz.ntmps142
 go_wp2_with fail
 refine H.mono ?_
 intro e w' he
 have HE2:Hid _:=HE.out _ _ he
 rcases he.shape with⟨q,nn,cc,rfl⟩ | ⟨y,rfl⟩
 · go_wp2
   go_ret
   exact HE2.out
 · go_wp2
   exact⟨rfl,HE2.out⟩
theorem both_step (n:Nat)(B:Nat)(p:Option Addr)(c:Nat)(ts:List Tk)(ih:AllR n B p c ts):Reads (n+1) 2 175 B p c ts:=by
 intro w k res h hres
 have hmm:= @run_makeMap Tryz.prog
 have hmf:∀(fn:Fn) (first cap:Array Value) (w:World),(Instr.makeFunc fn first cap).run Tryz.prog w= .ok (.func fn first cap) w:=fun _ _ _ _=>rfl
 obtain⟨w1,r1,o1,g1⟩:=(OM.made w).put (by omega) ⟨#[38,38]⟩ (by decide) 11 (by decide) (by decide)
 have hb1:Below w.heap.size w w1:=grown_below ((Below.refl _ _).alloc (Nat.le_refl _) _) g1 (Nat.le_refl _)
 have H:=row_any n 2 (fnL 3) B p c ts w1 k w.heap.size 1 _ res (Or.inr (Or.inl rfl)) (enters_of Tryz.func193 (by kernel_rfl) rfl) (ih 3 (by omega)) o1 (fun t ht=>ands_op ht) rfl (h.up hb1) hres
 have HE:Hid (∀e w',EndP B p c ts w1 res e w'→EndP B p c ts w res e w'):=fun e w' he=>EndP.from hb1 he
 clear hres g1 o1
 go_enter Tryz.func175,Tryz.ntmps175
 go_wp2_with fail
 refine H.mono ?_
 intro e w' he
 have HE2:Hid _:=HE.out _ _ he
 rcases he.shape with⟨q,nn,cc,rfl⟩ | ⟨y,rfl⟩
 · go_wp2
   go_ret
   exact HE2.out
 · go_wp2
   exact⟨rfl,HE2.out⟩
theorem sum_step (n:Nat)(B:Nat)(p:Option Addr)(c:Nat)(ts:List Tk)(ih:AllR n B p c ts):Reads (n+1) 4 205 B p c ts:=by
 intro w k res h hres
 have hmm:= @run_makeMap Tryz.prog
 have hmf:∀(fn:Fn) (first cap:Array Value) (w:World),(Instr.makeFunc fn first cap).run Tryz.prog w= .ok (.func fn first cap) w:=fun _ _ _ _=>rfl
 obtain⟨w1,r1,o1,g1⟩:=(OM.made w).put (by omega) ⟨#[43]⟩ (by decide) 17 (by decide) (by decide)
 have hb1:Below w.heap.size w w1:=grown_below ((Below.refl _ _).alloc (Nat.le_refl _) _) g1 (Nat.le_refl _)
 obtain⟨w2,r2,o2,g2⟩:=o1.put (by omega) ⟨#[45]⟩ (by decide) 18 (by decide) (by decide)
 have hb2:Below w.heap.size w w2:=grown_below hb1 g2 (Nat.le_refl _)
 have H:=row_any n 4 (fnL 5) B p c ts w2 k w.heap.size 2 _ res (Or.inr (Or.inr (Or.inl rfl))) (enters_of Tryz.func212 (by kernel_rfl) rfl) (ih 5 (by omega)) o2 (fun t ht=>sums_op ht) rfl (h.up hb2) hres
 have HE:Hid (∀e w',EndP B p c ts w2 res e w'→EndP B p c ts w res e w'):=fun e w' he=>EndP.from hb2 he
 clear hres g1 o1 g2 o2
 go_enter Tryz.func205,Tryz.ntmps205
 go_wp2_with fail
 refine H.mono ?_
 intro e w' he
 have HE2:Hid _:=HE.out _ _ he
 rcases he.shape with⟨q,nn,cc,rfl⟩ | ⟨y,rfl⟩
 · go_wp2
   go_ret
   exact HE2.out
 · go_wp2
   exact⟨rfl,HE2.out⟩
theorem prod_step (n:Nat)(B:Nat)(p:Option Addr)(c:Nat)(ts:List Tk)(ih:AllR n B p c ts):Reads (n+1) 5 212 B p c ts:=by
 intro w k res h hres
 have hmm:= @run_makeMap Tryz.prog
 have hmf:∀(fn:Fn) (first cap:Array Value) (w:World),(Instr.makeFunc fn first cap).run Tryz.prog w= .ok (.func fn first cap) w:=fun _ _ _ _=>rfl
 obtain⟨w1,r1,o1,g1⟩:=(OM.made w).put (by omega) ⟨#[42]⟩ (by decide) 19 (by decide) (by decide)
 have hb1:Below w.heap.size w w1:=grown_below ((Below.refl _ _).alloc (Nat.le_refl _) _) g1 (Nat.le_refl _)
 have H:=row_any n 5 (fnL 6) B p c ts w1 k w.heap.size 1 _ res (Or.inr (Or.inr (Or.inr rfl))) (enters_of Tryz.func219 (by kernel_rfl) rfl) (ih 6 (by omega)) o1 (fun t ht=>muls_op ht) rfl (h.up hb1) hres
 have HE:Hid (∀e w',EndP B p c ts w1 res e w'→EndP B p c ts w res e w'):=fun e w' he=>EndP.from hb1 he
 clear hres g1 o1
 go_enter Tryz.func212,Tryz.ntmps212
 go_wp2_with fail
 refine H.mono ?_
 intro e w' he
 have HE2:Hid _:=HE.out _ _ he
 rcases he.shape with⟨q,nn,cc,rfl⟩ | ⟨y,rfl⟩
 · go_wp2
   go_ret
   exact HE2.out
 · go_wp2
   exact⟨rfl,HE2.out⟩
set_option linter.unusedSimpArgs false
def relF:List UInt8→Option Int:=putF (putF (putF (putF (putF (putF (putF noF [61,61] 14) [60] 15) [60,61] 16) [105,110] 20) [104,97,115] 21) [105,115] 24) [108,105,107,101] 23
def relOp (t:Tk):Option Int:=if relS t=true then some (opOf t)else if hasS t=true then some (if nam t wHas=true then 21 else 24)else if nam t wLike=true then some 23 else none
theorem rel_op {t:Tk}(ht:spB t=true):relF (its t)=relOp t:=by
 unfold relF relOp
 have n1:=its_nam (w:=[105,107,101]) (c:=108) ht (by decide)
 have n2:=its_nam (w:=[115]) (c:=105) ht (by decide)
 have n3:=its_nam (w:=[97,115]) (c:=104) ht (by decide)
 have n4:=its_nam (w:=[110]) (c:=105) ht (by decide)
 have s1:=its_sgn (w:=[61]) (c:=60) ht (by decide)
 have s2:=its_sgn (w:=[]) (c:=60) ht (by decide)
 have s3:=its_sgn (w:=[61]) (c:=61) ht (by decide)
 unfold relS hasS
 simp only[putF,noF]
 by_cases h1:its t=[108,105,107,101]
 · have k:=n1.1 h1
   have e:=(nam_kind k).2
   have ek:=(nam_kind k).1
   rw[if_pos h1]
   simp[sgn,nam,e,ek,wIn,wHas,wIs,wLike]
 · rw[if_neg h1]
   have k1:nam t wLike=false:=by
    cases hh:nam t wLike
    · rfl
    · exact absurd (n1.2 hh) h1
   by_cases h2:its t=[105,115]
   · have k:=n2.1 h2
     have e:=(nam_kind k).2
     have ek:=(nam_kind k).1
     rw[if_pos h2]
     simp[sgn,nam,e,ek,wIn,wHas,wIs,wLike]
   · rw[if_neg h2]
     have k2:nam t wIs=false:=by
      cases hh:nam t wIs
      · rfl
      · exact absurd (n2.2 hh) h2
     by_cases h3:its t=[104,97,115]
     · have k:=n3.1 h3
       have e:=(nam_kind k).2
       have ek:=(nam_kind k).1
       rw[if_pos h3]
       simp[sgn,nam,e,ek,wIn,wHas,wIs,wLike]
     · rw[if_neg h3]
       have k3:nam t wHas=false:=by
        cases hh:nam t wHas
        · rfl
        · exact absurd (n3.2 hh) h3
       by_cases h4:its t=[105,110]
       · have k:=n4.1 h4
         have e:=(nam_kind k).2
         have ek:=(nam_kind k).1
         rw[if_pos h4]
         simp[sgn,nam,e,ek,wIn,opOf]
       · rw[if_neg h4]
         have k4:nam t wIn=false:=by
          cases hh:nam t wIn
          · rfl
          · exact absurd (n4.2 hh) h4
         by_cases h5:its t=[60,61]
         · have k:=s1.1 h5
           have e:=(sgn_kind k).2
           have ek:=(sgn_kind k).1
           rw[if_pos h5]
           simp[sgn,nam,e,ek,opOf]
         · rw[if_neg h5]
           have k5:sgn t [60,61]=false:=by
            cases hh:sgn t [60,61]
            · rfl
            · exact absurd (s1.2 hh) h5
           by_cases h6:its t=[60]
           · have k:=s2.1 h6
             have e:=(sgn_kind k).2
             have ek:=(sgn_kind k).1
             rw[if_pos h6]
             simp[sgn,nam,e,ek,opOf]
           · rw[if_neg h6]
             have k6:sgn t [60]=false:=by
              cases hh:sgn t [60]
              · rfl
              · exact absurd (s2.2 hh) h6
             by_cases h7:its t=[61,61]
             · have k:=s3.1 h7
               have e:=(sgn_kind k).2
               have ek:=(sgn_kind k).1
               rw[if_pos h7]
               simp[sgn,nam,e,ek,opOf]
             · rw[if_neg h7]
               have k7:sgn t [61,61]=false:=by
                cases hh:sgn t [61,61]
                · rfl
                · exact absurd (s3.2 hh) h7
               rw[k1,k2,k3,k4,k5,k6,k7];rfl
theorem relS_op {t:Tk}(h:relS t=true):(opOf t == 21)=false∧(opOf t == 24)=false∧(opOf t == 23)=false:=by
 unfold relS at h
 simp only[Bool.or_eq_true]at h
 rcases h with((h | h) | h) | h
 · have:=(sgn_kind h).2;unfold opOf;rw[this];decide
 · have:=(sgn_kind h).2;unfold opOf;rw[this];decide
 · have:=(sgn_kind h).2;unfold opOf;rw[this];decide
 · have:=(nam_kind h).2;unfold opOf;rw[this];decide
theorem ret_slice {q:Option Addr}{n m c:Nat}(h:n=m):Ending.returned (.slice q n c)= .returned (.slice q m c):=by rw[h]
theorem hd_bad {l:List Tk}{kd:Int}(h0:kd≠0)(h:∀t r,l=t::r→(t.kind == kd)=false):((hdT l).kind == kd)=false:=by
 cases l with
 | nil=>show((0:Int) == kd)=false;simpa using Ne.symm h0
 | cons t r=>exact h t r rfl
theorem mkN_wf {op:Int}{s:ByteArray}(hs:s.size≤maxLen):(mkN op 0 s.data.toList []).wf:=by
 refine⟨?_,Nat.zero_le _,by show(0:Int)≤_;decide⟩
 show(ByteArray.mk s.data.toList.toArray).size≤_
 exact hs
theorem ndV_mk (op:Int)(s:ByteArray):ndV (mkN op 0 s.data.toList [])= .agg #[.int .i64 op,.int .i64 0,.string s,.string ⟨#[]⟩]:=by
 unfold ndV mkN
 simp
theorem pE3_stop {n:Nat}{a:List Nd}{r:List Tk}{res:PRes}(h:(match r with
        | []=>some (.ok (a,[]))
        | t::r1=>
          if relS t=true then andR (pE n 4 r1) fun b r2=>some (.ok (opN (opOf t)::(a++b),r2))
          else if hasS t=true then must (fun u=>u.kind == 1) r1 fun u r2=>some (.ok (mkN (if nam t wHas=true then 21 else 24) 0 u.l []::a,r2))
          else if nam t wLike=true then must (fun u=>u.kind == 3) r1 fun u r2=>some (.ok (mkN 23 0 u.l []::a,r2))
          else some (.ok (a,t::r1)))=some res) (hr:∀t r1,r=t::r1→relOp t=none):res= .ok (a,r):=by
 cases r with
 | nil=>injection h with h;exact h.symm
 | cons t r1=>
   have:=hr t r1 rfl
   unfold relOp at this
   simp only at h
   split at this
   · cases this
   · rename_i h1
     split at this
     · cases this
     · rename_i h2
       split at this
       · cases this
       · rename_i h3
         rw[if_neg h1,if_neg h2,if_neg h3]at h
         injection h with h;exact h.symm
theorem rel_step (n:Nat)(B:Nat)(p:Option Addr)(c:Nat)(ts:List Tk)(ih:AllR n B p c ts):Reads (n+1) 3 193 B p c ts:=by
 intro w k res h hres
 rw[pE_three]at hres
 have hle:=h.len
 have hkd:AllK (ts.drop k):=fun t ht=>(h.all.kinds) t (List.mem_of_mem_drop ht)
 have hmm:= @run_makeMap Tryz.prog
 rcases andR_some hres with⟨e0,h1,rfl⟩ | ⟨a,r,h1,h2⟩
 · have H1:=ih 4 (by omega) w k _ h h1
   clear hres h1
   go_enter Tryz.func193,Tryz.ntmps193
   go_wp2_with fail
   refine H1.mono ?_
   rintro e w1 ⟨rfl,hr1,hx1⟩
   go_wp2
   exact⟨rfl,rfl,hr1,hx1⟩
 · have H1:=ih 4 (by omega) w k _ h h1
   obtain⟨hlen,hne0,a1,hsuf⟩:=pE_len hkd (by omega) h1
   have HS:Hid _:=drop_suffix hsuf
   rw[List.length_drop]at hlen
   clear hres h1 hsuf a1
   go_enter Tryz.func193,Tryz.ntmps193
   go_wp2_with fail
   refine H1.mono ?_
   rintro e w1 ⟨⟨q1,c1,rfl,hnt1,hc1,hcm1⟩,hr1,hx1⟩
   obtain⟨w2,x2,o2,g2⟩:=(OM.made w1).put (by omega) ⟨#[61,61]⟩ (by decide) 14 (by decide) (by decide)
   have hb2:Below w1.heap.size w1 w2:=grown_below ((Below.refl _ _).alloc (Nat.le_refl _) _) g2 (Nat.le_refl _)
   obtain⟨w3,x3,o3,g3⟩:=o2.put (by omega) ⟨#[60]⟩ (by decide) 15 (by decide) (by decide)
   have hb3:=grown_below hb2 g3 (Nat.le_refl _)
   obtain⟨w4,x4,o4,g4⟩:=o3.put (by omega) ⟨#[60,61]⟩ (by decide) 16 (by decide) (by decide)
   have hb4:=grown_below hb3 g4 (Nat.le_refl _)
   obtain⟨w5,x5,o5,g5⟩:=o4.put (by omega) ⟨#[105,110]⟩ (by decide) 20 (by decide) (by decide)
   have hb5:=grown_below hb4 g5 (Nat.le_refl _)
   obtain⟨w6,x6,o6,g6⟩:=o5.put (by omega) ⟨#[104,97,115]⟩ (by decide) 21 (by decide) (by decide)
   have hb6:=grown_below hb5 g6 (Nat.le_refl _)
   obtain⟨w7,x7,o7,g7⟩:=o6.put (by omega) ⟨#[105,115]⟩ (by decide) 24 (by decide) (by decide)
   have hb7:=grown_below hb6 g7 (Nat.le_refl _)
   obtain⟨w8,x8,o8,g8⟩:=o7.put (by omega) ⟨#[108,105,107,101]⟩ (by decide) 23 (by decide) (by decide)
   have hb8:=grown_below hb7 g8 (Nat.le_refl _)
   clear hb2 hb3 hb4 hb5 hb6 hb7 o2 o3 o4 o5 o6 o7 g2 g3 g4 g5 g6 g7 g8
   have HM:Hid (OM w8 w1.heap.size 7 relF):=o8
   have HR8:Hid _:=hr1.up hb8
   have HX8:Hid (BX B w w8):=hx1.up hb8
   have HNT:Hid (NT w8 0 q1 a):=hnt1.below hb8
   have HH2:Hid _:=h2
   simp only at hc1
   clear o8 hr1 hx1 hnt1 hb8 h2
   have HA0:=ahead0_any w8 B p c ts (ts.length-r.length) HR8.out
   have hk1:(((ts.length-r.length:Nat):Int))≤300:=by omega
   rw[HS.out]at HA0
   cases r with
   | nil=>
     have HI:=itself_any bT
     have hisz:(itB bT).size≤maxLen:=Nat.zero_le _
     have hft:relF (itB bT).data.toList=none:=rfl
     have HE:Hid (res= .ok (a,[])):=pE3_stop (n:=n) HH2.out (fun _ _ h=>by cases h)
     have hdt:hdT []=bT:=rfl
     rw[hdt]at HA0
     clear HH2 hdt
     generalize bT=t at *
     unfold tokV at HA0 HI
     go_wp2_with (first
      | (go_at_call 141;refine HA0.mono ?_;rintro e w9 ⟨rfl,hb9⟩)
      | (go_at_call 140;refine(HI _).mono ?_;rintro e wa ⟨rfl,hba⟩;have HMa:Hid (OM wa w1.heap.size 7 relF):=(HM.out.up hb9).up hba;have HRa:Hid _:=(HR8.out.up hb9).up hba;have HXa:Hid (BX B w wa):=(HX8.out.up hb9).up hba;have HNTa:Hid (NT wa 0 q1 a):=(HNT.out.below hb9).below hba;have c1a:=HRa.out.c1;have f1a:=HRa.out.fz;clear hba)
      | (at_lookup;refine lookup_op wa rfl _ _ rfl w1.heap.size 7 relF rfl HMa.out (itB t) rfl hisz ?_;rw[hft]))
     go_ret
     rw[HE.out]
     exact⟨⟨q1,c1,rfl,HNTa.out,hc1,hcm1⟩,HRa.out,HXa.out⟩
   | cons t r1=>
     have hdt:hdT (t::r1)=t:=rfl
     rw[hdt]at HA0
     obtain⟨hd1,hd2,hd3⟩:=drop_cons HS.out
     have hsp:=h.all t (List.mem_of_mem_drop (i:=ts.length-(t::r1).length) (by rw[HS.out];exact List.mem_cons_self ..))
     have hisz:(itB t).size≤maxLen:=by
      unfold itB;split
      · have:=spB_size hsp;unfold Tk.l at this;unfold maxLen;simp at this;omega
      · exact Nat.zero_le _
     have HI:=itself_any t
     unfold tokV at HA0 HI
     have HIB:Hid (relF (itB t).data.toList=relOp t):=by show _=_;rw[itB_its t];exact rel_op hsp
     have HD1:Hid _:=hd1
     have hkd1:AllK r1:=fun u hu=>h.all.kinds u (List.mem_of_mem_drop (i:=ts.length-(t::r1).length) (by rw[HS.out];exact List.mem_cons_of_mem _ hu))
     simp only[List.length_cons]at *
     generalize hKK:ts.length-(r1.length+1)=k1 at *
     have HK1:Hid (ts.length-r1.length=k1+1):=by show _=_;omega
     by_cases hs:relS t=true
     · have hft:relF (itB t).data.toList=some (opOf t):=by rw[HIB.out];unfold relOp;rw[if_pos hs]
       have hop:=relS_op hs
       have hh:=HH2.out
       simp only[if_pos hs]at hh
       obtain⟨n1,n2,n3⟩:=hop
       rcases andR_some hh with⟨e1,g1,rfl⟩ | ⟨b1,r2,g1,g2⟩
       · have HG:=fun W (hr:RS W B p c ts (k1+1))=>ih 4 (by omega) W (k1+1) _ hr (by rw[HD1.out];exact g1)
         clear g1 hh hs HH2 HIB hd1
         generalize opOf t=o at *
         go_wp2_with (first
         | (go_at_call 141;refine HA0.mono ?_;rintro e w9 ⟨rfl,hb9⟩)
         | (go_at_call 140;refine(HI _).mono ?_;rintro e wa ⟨rfl,hba⟩;have HMa:Hid (OM wa w1.heap.size 7 relF):=(HM.out.up hb9).up hba;have HRa:Hid _:=(HR8.out.up hb9).up hba;have HXa:Hid (BX B w wa):=(HX8.out.up hb9).up hba;have HNTa:Hid (NT wa 0 q1 a):=(HNT.out.below hb9).below hba;have c1a:=HRa.out.c1;have f1a:=HRa.out.fz;clear hba)
         | (at_lookup;refine lookup_op wa rfl _ _ rfl w1.heap.size 7 relF rfl HMa.out (itB t) rfl hisz ?_;rw[hft])
           | (go_at_call 205;refine(HG _ (HRa.out.set (k':=k1+1) (by omega))).mono ?_;rintro e wb ⟨rfl,hrb,hxb⟩))
         exact⟨rfl,rfl,hrb,(HXa.out.set 1 _).trans hxb⟩
       · obtain⟨glen,gne,ga,gsuf⟩:=pE_len hkd1 (by omega) g1
         have HG:=fun W (hr:RS W B p c ts (k1+1))=>ih 4 (by omega) W (k1+1) _ hr (by rw[HD1.out];exact g1)
         have HG2:Hid _:=g2
         have HNE:Hid _:=gne
         have HN0:Hid _:=hne0
         clear g1 g2 hh hs HH2 HIB hd1 gsuf gne hne0
         generalize hoo:opOf t=o at *
         have HOO:Hid (_=_):=hoo
         clear hoo
         go_wp2_with (first
         | (go_at_call 141;refine HA0.mono ?_;rintro e w9 ⟨rfl,hb9⟩)
         | (go_at_call 140;refine(HI _).mono ?_;rintro e wa ⟨rfl,hba⟩;have HMa:Hid (OM wa w1.heap.size 7 relF):=(HM.out.up hb9).up hba;have HRa:Hid _:=(HR8.out.up hb9).up hba;have HXa:Hid (BX B w wa):=(HX8.out.up hb9).up hba;have HNTa:Hid (NT wa 0 q1 a):=(HNT.out.below hb9).below hba;have c1a:=HRa.out.c1;have f1a:=HRa.out.fz;clear hba)
         | (at_lookup;refine lookup_op wa rfl _ _ rfl w1.heap.size 7 relF rfl HMa.out (itB t) rfl hisz ?_;rw[hft])
           | (go_at_call 205;refine(HG _ (HRa.out.set (k':=k1+1) (by omega))).mono ?_;rintro e wb ⟨⟨qb,cb,rfl,hntb,hcb,hcmb⟩,hrb,hxb⟩;simp only at hntb hcb ⊢; have HNTb:Hid _:=hntb;have HRb:Hid _:=hrb;have HXb:Hid (BX B w wb):=(HXa.out.set 1 _).trans hxb;have HAb:Hid (NT wb 0 q1 a):=(HNTa.out.bx HRa.out ((BX.refl _ _).set 1 _)).bx (HRa.out.set (k':=k1+1) (by omega)) hxb;clear hntb hrb hxb)
            | (go_at_call 144;refine(join2 (opN o) a b1 q1 qb c1 cb _ wb opN_wf HAb.out.1 hc1 hcm1 HN0.out (by omega) HNTb.out.1 hcb hcmb HNE.out (by omega)).mono ?_;rintro e wc ⟨⟨qc,cc,rfl,hntc,hcc,hcmc⟩,hbc⟩;have HNTc:Hid _:=hntc;clear hntc))
         go_ret
         injection HG2.out with hres
         rw[←hres]
         exact⟨⟨qc,cc,ret_slice (by simp),HNTc.out,hcc,hcmc⟩,HRb.out.up hbc,HXb.out.up hbc⟩
     · by_cases hs2:hasS t=true
       · by_cases hs3:nam t wHas=true
         · have hft:relF (itB t).data.toList=some 21:=by rw[HIB.out];unfold relOp;rw[if_neg hs,if_pos hs2,if_pos hs3]
           have hh:=HH2.out
           simp only[if_neg hs,if_pos hs2,if_pos hs3]at hh
           clear HH2 HIB
           rcases must_some hh with⟨g1,rfl⟩ | ⟨u,r2,rfl,g1,g2⟩
           · have hbad:=hd_bad (kd:=1) (by decide) g1
             rw[←HD1.out]at hbad
             have HBAD:Hid _:=hbad
             clear hbad g1 hh hd1
             go_wp2_with (first
              | (go_at_call 141;refine HA0.mono ?_;rintro e w9 ⟨rfl,hb9⟩)
              | (go_at_call 140;refine(HI _).mono ?_;rintro e wa ⟨rfl,hba⟩;have HMa:Hid (OM wa w1.heap.size 7 relF):=(HM.out.up hb9).up hba;have HRa:Hid _:=(HR8.out.up hb9).up hba;have HXa:Hid (BX B w wa):=(HX8.out.up hb9).up hba;have HNTa:Hid (NT wa 0 q1 a):=(HNT.out.below hb9).below hba;have c1a:=HRa.out.c1;have f1a:=HRa.out.fz;clear hba)
              | (at_lookup;refine lookup_op wa rfl _ _ rfl w1.heap.size 7 relF rfl HMa.out (itB t) rfl hisz ?_;rw[hft])
               | (go_at_call 206;refine(take_bad _ B p c ts (k1+1) 1 (HRa.out.set (k':=k1+1) (by omega)) HBAD.out).mono ?_;rintro e wb ⟨rfl,hrb,hxb⟩))
             refine⟨rfl,rfl,?_,(HXa.out.set 1 _).trans hxb⟩
             simp only[HK1.out];exact hrb
           · have hdu:hdT (ts.drop (k1+1))=u:=by rw[HD1.out];rfl
             have hku:u.kind=1:=by simpa using g1
             have hsu:=h.all u (List.mem_of_mem_drop (i:=k1+1) (by rw[HD1.out];exact List.mem_cons_self ..))
             have husz:u.s.size≤maxLen:=by have:=spB_size hsu;unfold Tk.l at this;unfold maxLen;simp at this;omega
             have hlt2:k1+1<ts.length:=by have:=congrArg List.length HD1.out;rw[List.length_drop,List.length_cons]at this;omega
             have HT:=fun W (hr:RS W B p c ts (k1+1))=>take_ok W B p c ts (k1+1) 1 hr hlt2 (by rw[hdu];exact hku)
             rw[hdu]at HT
             have HG2:Hid _:=g2
             have HN0:Hid _:=hne0
             have HK2:Hid (ts.length-r2.length=k1+1+1):=by have:=congrArg List.length HD1.out;rw[List.length_drop,List.length_cons]at this;show _=_;omega
             have HJ:=fun W (ha:NL W q1 a) T=>join1 (mkN 21 0 u.s.data.toList []) a q1 c1 T W (mkN_wf husz) ha hc1 hcm1 hne0 (by omega)
             rw[ndV_mk]at HJ
             clear g1 g2 hh hd1 hdu hne0
             go_wp2_with (first
              | (go_at_call 141;refine HA0.mono ?_;rintro e w9 ⟨rfl,hb9⟩)
              | (go_at_call 140;refine(HI _).mono ?_;rintro e wa ⟨rfl,hba⟩;have HMa:Hid (OM wa w1.heap.size 7 relF):=(HM.out.up hb9).up hba;have HRa:Hid _:=(HR8.out.up hb9).up hba;have HXa:Hid (BX B w wa):=(HX8.out.up hb9).up hba;have HNTa:Hid (NT wa 0 q1 a):=(HNT.out.below hb9).below hba;have c1a:=HRa.out.c1;have f1a:=HRa.out.fz;clear hba)
              | (at_lookup;refine lookup_op wa rfl _ _ rfl w1.heap.size 7 relF rfl HMa.out (itB t) rfl hisz ?_;rw[hft])
               | (go_at_call 206;refine(HT _ (HRa.out.set (k':=k1+1) (by omega))).mono ?_;rintro e wb ⟨rfl,hrb,hxb⟩;have HRb:Hid _:=hrb;have HXb:Hid (BX B w wb):=(HXa.out.set 1 _).trans hxb;have HAb:Hid (NT wb 0 q1 a):=(HNTa.out.bx HRa.out ((BX.refl _ _).set 1 _)).bx (HRa.out.set (k':=k1+1) (by omega)) hxb;clear hrb hxb)
               | (go_at_call 144;refine(HJ _ HAb.out.1 _).mono ?_;rintro e wc ⟨⟨qc,cc,rfl,hntc,hcc,hcmc⟩,hbc⟩;have HNTc:Hid _:=hntc;clear hntc))
             go_ret
             injection HG2.out with hres
             rw[←hres]
             refine⟨⟨qc,cc,ret_slice (by simp),HNTc.out,hcc,hcmc⟩,?_,HXb.out.up hbc⟩
             simp only[HK2.out];exact HRb.out.up hbc
         · have hft:relF (itB t).data.toList=some 24:=by rw[HIB.out];unfold relOp;rw[if_neg hs,if_pos hs2,if_neg hs3]
           have hh:=HH2.out
           simp only[if_neg hs,if_pos hs2,if_neg hs3]at hh
           clear HH2 HIB
           rcases must_some hh with⟨g1,rfl⟩ | ⟨u,r2,rfl,g1,g2⟩
           · have hbad:=hd_bad (kd:=1) (by decide) g1
             rw[←HD1.out]at hbad
             have HBAD:Hid _:=hbad
             clear hbad g1 hh hd1
             go_wp2_with (first
              | (go_at_call 141;refine HA0.mono ?_;rintro e w9 ⟨rfl,hb9⟩)
              | (go_at_call 140;refine(HI _).mono ?_;rintro e wa ⟨rfl,hba⟩;have HMa:Hid (OM wa w1.heap.size 7 relF):=(HM.out.up hb9).up hba;have HRa:Hid _:=(HR8.out.up hb9).up hba;have HXa:Hid (BX B w wa):=(HX8.out.up hb9).up hba;have HNTa:Hid (NT wa 0 q1 a):=(HNT.out.below hb9).below hba;have c1a:=HRa.out.c1;have f1a:=HRa.out.fz;clear hba)
              | (at_lookup;refine lookup_op wa rfl _ _ rfl w1.heap.size 7 relF rfl HMa.out (itB t) rfl hisz ?_;rw[hft])
               | (go_at_call 206;refine(take_bad _ B p c ts (k1+1) 1 (HRa.out.set (k':=k1+1) (by omega)) HBAD.out).mono ?_;rintro e wb ⟨rfl,hrb,hxb⟩))
             refine⟨rfl,rfl,?_,(HXa.out.set 1 _).trans hxb⟩
             simp only[HK1.out];exact hrb
           · have hdu:hdT (ts.drop (k1+1))=u:=by rw[HD1.out];rfl
             have hku:u.kind=1:=by simpa using g1
             have hsu:=h.all u (List.mem_of_mem_drop (i:=k1+1) (by rw[HD1.out];exact List.mem_cons_self ..))
             have husz:u.s.size≤maxLen:=by have:=spB_size hsu;unfold Tk.l at this;unfold maxLen;simp at this;omega
             have hlt2:k1+1<ts.length:=by have:=congrArg List.length HD1.out;rw[List.length_drop,List.length_cons]at this;omega
             have HT:=fun W (hr:RS W B p c ts (k1+1))=>take_ok W B p c ts (k1+1) 1 hr hlt2 (by rw[hdu];exact hku)
             rw[hdu]at HT
             have HG2:Hid _:=g2
             have HN0:Hid _:=hne0
             have HK2:Hid (ts.length-r2.length=k1+1+1):=by have:=congrArg List.length HD1.out;rw[List.length_drop,List.length_cons]at this;show _=_;omega
             have HJ:=fun W (ha:NL W q1 a) T=>join1 (mkN 24 0 u.s.data.toList []) a q1 c1 T W (mkN_wf husz) ha hc1 hcm1 hne0 (by omega)
             rw[ndV_mk]at HJ
             clear g1 g2 hh hd1 hdu hne0
             go_wp2_with (first
              | (go_at_call 141;refine HA0.mono ?_;rintro e w9 ⟨rfl,hb9⟩)
              | (go_at_call 140;refine(HI _).mono ?_;rintro e wa ⟨rfl,hba⟩;have HMa:Hid (OM wa w1.heap.size 7 relF):=(HM.out.up hb9).up hba;have HRa:Hid _:=(HR8.out.up hb9).up hba;have HXa:Hid (BX B w wa):=(HX8.out.up hb9).up hba;have HNTa:Hid (NT wa 0 q1 a):=(HNT.out.below hb9).below hba;have c1a:=HRa.out.c1;have f1a:=HRa.out.fz;clear hba)
              | (at_lookup;refine lookup_op wa rfl _ _ rfl w1.heap.size 7 relF rfl HMa.out (itB t) rfl hisz ?_;rw[hft])
               | (go_at_call 206;refine(HT _ (HRa.out.set (k':=k1+1) (by omega))).mono ?_;rintro e wb ⟨rfl,hrb,hxb⟩;have HRb:Hid _:=hrb;have HXb:Hid (BX B w wb):=(HXa.out.set 1 _).trans hxb;have HAb:Hid (NT wb 0 q1 a):=(HNTa.out.bx HRa.out ((BX.refl _ _).set 1 _)).bx (HRa.out.set (k':=k1+1) (by omega)) hxb;clear hrb hxb)
               | (go_at_call 144;refine(HJ _ HAb.out.1 _).mono ?_;rintro e wc ⟨⟨qc,cc,rfl,hntc,hcc,hcmc⟩,hbc⟩;have HNTc:Hid _:=hntc;clear hntc))
             go_ret
             injection HG2.out with hres
             rw[←hres]
             refine⟨⟨qc,cc,ret_slice (by simp),HNTc.out,hcc,hcmc⟩,?_,HXb.out.up hbc⟩
             simp only[HK2.out];exact HRb.out.up hbc
       · by_cases hs3:nam t wLike=true
         · have hft:relF (itB t).data.toList=some 23:=by rw[HIB.out];unfold relOp;rw[if_neg hs,if_neg hs2,if_pos hs3]
           have hh:=HH2.out
           simp only[if_neg hs,if_neg hs2,if_pos hs3]at hh
           clear HH2 HIB
           rcases must_some hh with⟨g1,rfl⟩ | ⟨u,r2,rfl,g1,g2⟩
           · have hbad:=hd_bad (kd:=3) (by decide) g1
             rw[←HD1.out]at hbad
             have HBAD:Hid _:=hbad
             clear hbad g1 hh hd1
             go_wp2_with (first
              | (go_at_call 141;refine HA0.mono ?_;rintro e w9 ⟨rfl,hb9⟩)
              | (go_at_call 140;refine(HI _).mono ?_;rintro e wa ⟨rfl,hba⟩;have HMa:Hid (OM wa w1.heap.size 7 relF):=(HM.out.up hb9).up hba;have HRa:Hid _:=(HR8.out.up hb9).up hba;have HXa:Hid (BX B w wa):=(HX8.out.up hb9).up hba;have HNTa:Hid (NT wa 0 q1 a):=(HNT.out.below hb9).below hba;have c1a:=HRa.out.c1;have f1a:=HRa.out.fz;clear hba)
              | (at_lookup;refine lookup_op wa rfl _ _ rfl w1.heap.size 7 relF rfl HMa.out (itB t) rfl hisz ?_;rw[hft])
               | (go_at_call 206;refine(take_bad _ B p c ts (k1+1) 3 (HRa.out.set (k':=k1+1) (by omega)) HBAD.out).mono ?_;rintro e wb ⟨rfl,hrb,hxb⟩))
             refine⟨rfl,rfl,?_,(HXa.out.set 1 _).trans hxb⟩
             simp only[HK1.out];exact hrb
           · have hdu:hdT (ts.drop (k1+1))=u:=by rw[HD1.out];rfl
             have hku:u.kind=3:=by simpa using g1
             have hsu:=h.all u (List.mem_of_mem_drop (i:=k1+1) (by rw[HD1.out];exact List.mem_cons_self ..))
             have husz:u.s.size≤maxLen:=by have:=spB_size hsu;unfold Tk.l at this;unfold maxLen;simp at this;omega
             have hlt2:k1+1<ts.length:=by have:=congrArg List.length HD1.out;rw[List.length_drop,List.length_cons]at this;omega
             have HT:=fun W (hr:RS W B p c ts (k1+1))=>take_ok W B p c ts (k1+1) 3 hr hlt2 (by rw[hdu];exact hku)
             rw[hdu]at HT
             have HG2:Hid _:=g2
             have HN0:Hid _:=hne0
             have HK2:Hid (ts.length-r2.length=k1+1+1):=by have:=congrArg List.length HD1.out;rw[List.length_drop,List.length_cons]at this;show _=_;omega
             have HJ:=fun W (ha:NL W q1 a) T=>join1 (mkN 23 0 u.s.data.toList []) a q1 c1 T W (mkN_wf husz) ha hc1 hcm1 hne0 (by omega)
             rw[ndV_mk]at HJ
             clear g1 g2 hh hd1 hdu hne0
             go_wp2_with (first
              | (go_at_call 141;refine HA0.mono ?_;rintro e w9 ⟨rfl,hb9⟩)
              | (go_at_call 140;refine(HI _).mono ?_;rintro e wa ⟨rfl,hba⟩;have HMa:Hid (OM wa w1.heap.size 7 relF):=(HM.out.up hb9).up hba;have HRa:Hid _:=(HR8.out.up hb9).up hba;have HXa:Hid (BX B w wa):=(HX8.out.up hb9).up hba;have HNTa:Hid (NT wa 0 q1 a):=(HNT.out.below hb9).below hba;have c1a:=HRa.out.c1;have f1a:=HRa.out.fz;clear hba)
              | (at_lookup;refine lookup_op wa rfl _ _ rfl w1.heap.size 7 relF rfl HMa.out (itB t) rfl hisz ?_;rw[hft])
               | (go_at_call 206;refine(HT _ (HRa.out.set (k':=k1+1) (by omega))).mono ?_;rintro e wb ⟨rfl,hrb,hxb⟩;have HRb:Hid _:=hrb;have HXb:Hid (BX B w wb):=(HXa.out.set 1 _).trans hxb;have HAb:Hid (NT wb 0 q1 a):=(HNTa.out.bx HRa.out ((BX.refl _ _).set 1 _)).bx (HRa.out.set (k':=k1+1) (by omega)) hxb;clear hrb hxb)
               | (go_at_call 144;refine(HJ _ HAb.out.1 _).mono ?_;rintro e wc ⟨⟨qc,cc,rfl,hntc,hcc,hcmc⟩,hbc⟩;have HNTc:Hid _:=hntc;clear hntc))
             go_ret
             injection HG2.out with hres
             rw[←hres]
             refine⟨⟨qc,cc,ret_slice (by simp),HNTc.out,hcc,hcmc⟩,?_,HXb.out.up hbc⟩
             simp only[HK2.out];exact HRb.out.up hbc
         · have hro:relOp t=none:=by unfold relOp;rw[if_neg hs,if_neg hs2,if_neg hs3]
           have hft:relF (itB t).data.toList=none:=by rw[HIB.out,hro]
           have HE:Hid (res= .ok (a,t::r1)):=pE3_stop (n:=n) HH2.out (fun u r' e=>by injection e with e1 _;subst e1;exact hro)
           clear HH2 HIB hd1 hro
           go_wp2_with (first
           | (go_at_call 141;refine HA0.mono ?_;rintro e w9 ⟨rfl,hb9⟩)
           | (go_at_call 140;refine(HI _).mono ?_;rintro e wa ⟨rfl,hba⟩;have HMa:Hid (OM wa w1.heap.size 7 relF):=(HM.out.up hb9).up hba;have HRa:Hid _:=(HR8.out.up hb9).up hba;have HXa:Hid (BX B w wa):=(HX8.out.up hb9).up hba;have HNTa:Hid (NT wa 0 q1 a):=(HNT.out.below hb9).below hba;have c1a:=HRa.out.c1;have f1a:=HRa.out.fz;clear hba)
           | (at_lookup;refine lookup_op wa rfl _ _ rfl w1.heap.size 7 relF rfl HMa.out (itB t) rfl hisz ?_;rw[hft]))
           go_ret
           rw[HE.out]
           refine⟨⟨q1,c1,rfl,HNTa.out,hc1,hcm1⟩,?_,HXa.out⟩
           simp only[List.length_cons,hKK];exact HRa.out
theorem RS.rest {w:World}{B:Nat}{p:Option Addr}{c:Nat}{ts:List Tk}{k:Nat}(h:RS w B p c ts k):AllS (ts.drop k):=fun t ht=>h.all t (List.mem_of_mem_drop ht)
theorem nextS_cons {l:List Tk}{s:List UInt8}(h:nextS l s=true):∃t r,l=t::r∧sgn t s=true:=by
 cases l with
 | nil=>cases h
 | cons t r=>exact⟨t,r,rfl,h⟩
theorem nextN_cons {l:List Tk}{s:List UInt8}(h:nextN l s=true):∃t r,l=t::r∧nam t s=true:=by
 cases l with
 | nil=>cases h
 | cons t r=>exact⟨t,r,rfl,h⟩
theorem nextNum_hd (l:List Tk):nextNum l=((hdT l).kind == 2):=by
 cases l<;>rfl
theorem join_end {B:Nat}{p:Option Addr}{c:Nat}{ts:List Tk}{w w1 w2:World}{L:List Nd}{r:List Tk}{e:Ending}{q:Option Addr}{cc:Nat}(he:e= .returned (.slice q L.length cc))(hn:NT w2 0 q L)(h1:L.length≤cc)(h2:cc≤maxLen)
 (hr:RS w1 B p c ts (ts.length-r.length)) (hx:BX B w w1) (hb:Below w1.heap.size w1 w2):EndP B p c ts w (.ok (L,r)) e w2:=
 ⟨⟨q,cc,he,hn,h1,h2⟩,hr.up hb,hx.up hb⟩
theorem tok_kind (a b d:Value)(w:World):(Instr.field 78 (.agg #[a,b,d]) 0).run Tryz.prog w= .ok a w:=by kernel_rfl
theorem sign_step (n:Nat)(B:Nat)(p:Option Addr)(c:Nat)(ts:List Tk)(ih:AllR n B p c ts):Reads (n+1) 6 219 B p c ts:=by
 intro w k res h hres
 have hle:=h.len
 have hlk:=h.le
 have hall:=h.rest
 have hkd:AllK (ts.drop k):=hall.kinds
 have hfl:=tok_kind
 have y1:=sayB_sgn (c:=33) (w:=[]) hall (by decide)
 have y2:=sayB_sgn (c:=45) (w:=[]) hall (by decide)
 by_cases c1:nextS (ts.drop k) [33]=true
 · obtain⟨t,r,hd,ht⟩:=nextS_cons c1
   obtain⟨d1,d2,d3⟩:=drop_cons hd
   have P1:=passes_yes w B p c ts k ⟨#[33]⟩ h (y1.trans c1) d2
   rw[hd,pE_not ht]at hres
   have hkr:AllK r:=fun u hu=>hkd u (by rw[hd];exact List.mem_cons_of_mem _ hu)
   rcases andR_some hres with⟨e1,g1,rfl⟩ | ⟨a,r1,g1,g2⟩
   · have HG:=fun W (hr:RS W B p c ts (k+1))=>ih 6 (by omega) W (k+1) _ hr (by rw[d1];exact g1)
     clear hres g1 y1 y2 c1 hd
     go_enter Tryz.func219,Tryz.ntmps219
     go_wp2_with (first
      | (go_at_call 176;refine P1.mono ?_;rintro e w1 ⟨rfl,hr1,hx1⟩)
      | (go_at_call 219;refine(HG _ hr1).mono ?_;rintro e w2 ⟨rfl,hr2,hx2⟩))
     exact⟨rfl,rfl,hr2,hx1.trans hx2⟩
   · obtain⟨glen,gne,ga,gsuf⟩:=pE_len hkr (by omega) g1
     have hrl:r.length≤300:=by have:=congrArg List.length hd;rw[List.length_drop,List.length_cons]at this;omega
     have HG:=fun W (hr:RS W B p c ts (k+1))=>ih 6 (by omega) W (k+1) _ hr (by rw[d1];exact g1)
     have HG2:Hid _:=g2
     have HNE:Hid _:=gne
     clear hres g1 g2 y1 y2 c1 hd gsuf gne
     go_enter Tryz.func219,Tryz.ntmps219
     go_wp2_with (first
      | (go_at_call 176;refine P1.mono ?_;rintro e w1 ⟨rfl,hr1,hx1⟩)
      | (go_at_call 219;refine(HG _ hr1).mono ?_;rintro e w2 ⟨⟨q2,c2,rfl,hnt2,hc2,hcm2⟩,hr2,hx2⟩;simp only at hnt2 hc2 ⊢; have HNT2:Hid _:=hnt2;have HR2:Hid _:=hr2;have HX2:Hid (BX B w w2):=hx1.trans hx2;clear hnt2 hr2 hx2)
      | (go_at_call 144;refine(join1 (opN 9) a q2 c2 _ w2 opN_wf HNT2.out.1 hc2 hcm2 HNE.out (by omega)).mono ?_;rintro e w3 ⟨⟨q3,c3,rfl,hnt3,hc3,hcm3⟩,hb3⟩;have HNT3:Hid _:=hnt3;clear hnt3))
     go_ret
     injection HG2.out with hres
     rw[←hres]
     exact join_end (ret_slice (by simp)) HNT3.out hc3 hcm3 HR2.out HX2.out hb3
 · have c1':nextS (ts.drop k) [33]=false:=by simpa using c1
   have P1:=passes_no w B p c ts k ⟨#[33]⟩ h (y1.trans c1')
   have S2:=fun W (hr:RS W B p c ts k)=>says_any W B p c ts k ⟨#[45]⟩ hr
   rw[show(ByteArray.mk #[45]).data.toList=[45] from rfl,y2]at S2
   by_cases c2:nextS (ts.drop k) [45]=true
   · rw[c2]at S2
     have A1:=fun W (hr:RS W B p c ts k)=>ahead1_any W B p c ts k hr
     unfold tokV at A1
     have hnn:=nextNum_hd (ts.drop k).tail
     by_cases c3:nextNum (ts.drop k).tail=true
     ·
      have hk2:((hdT (ts.drop k).tail).kind != 2)=false:=by
       rw[c3]at hnn
       have:(hdT (ts.drop k).tail).kind=2:=by simpa using hnn.symm
       rw[this];rfl
      rw[pE_six_up c1' (by rw[c3];simp)]at hres
      generalize hdT (ts.drop k).tail=u at *
      have HG:=fun W (hr:RS W B p c ts k)=>ih 7 (by omega) W k _ hr hres
      clear hres y1 y2 c1 c2 c3 hnn
      go_enter Tryz.func219,Tryz.ntmps219
      go_wp2_with (first
       | (go_at_call 176;refine P1.mono ?_;rintro e w1 ⟨rfl,hb1⟩)
       | (go_at_call 139;refine(S2 _ (h.up hb1)).mono ?_;rintro e w2 ⟨rfl,hb2⟩)
       | (go_at_call 141;refine(A1 _ ((h.up hb1).up hb2)).mono ?_;rintro e w3 ⟨rfl,hb3⟩)
       | (go_at_call 226;refine(HG _ (((h.up hb1).up hb2).up hb3)).mono ?_;intro e w4 he;have HE:Hid (EndP B p c ts w res e w4):=EndP.step (((BX.of_below hb1).up hb2).up hb3) he;rcases he.shape with⟨q,nn,cc,rfl⟩ | ⟨y,rfl⟩))
      · go_ret
        exact HE.out
      · exact⟨rfl,HE.out⟩
     · have c3':nextNum (ts.drop k).tail=false:=by simpa using c3
       have hk2:((hdT (ts.drop k).tail).kind != 2)=true:=by
        rw[c3']at hnn
        have:¬(hdT (ts.drop k).tail).kind=2:=by simpa using hnn.symm
        simpa using this
       obtain⟨t,r,hd,ht⟩:=nextS_cons c2
       obtain⟨d1,d2,d3⟩:=drop_cons hd
       have hkr:AllK r:=fun u hu=>hkd u (by rw[hd];exact List.mem_cons_of_mem _ hu)
       have P2:=fun W (hr:RS W B p c ts k)=>pass_ok W B p c ts k ⟨#[45]⟩ hr (y2.trans c2) d2
       have c1t:sgn t [33]=false:=by have:=c1';rw[hd]at this;exact this
       have c3t:(sgn t [45] && !nextNum r)=true:=by have:=c3';rw[hd]at this;rw[ht,show nextNum r=false from this];rfl
       rw[hd,pE_neg c1t c3t]at hres
       generalize hdT (ts.drop k).tail=u at *
       rcases andR_some hres with⟨e1,g1,rfl⟩ | ⟨a,r1,g1,g2⟩
       · have HG:=fun W (hr:RS W B p c ts (k+1))=>ih 6 (by omega) W (k+1) _ hr (by rw[d1];exact g1)
         clear hres g1 y1 y2 c1 c2 c3 hnn hd c1' c3'
         go_enter Tryz.func219,Tryz.ntmps219
         go_wp2_with (first
          | (go_at_call 176;refine P1.mono ?_;rintro e w1 ⟨rfl,hb1⟩)
          | (go_at_call 139;refine(S2 _ (h.up hb1)).mono ?_;rintro e w2 ⟨rfl,hb2⟩)
          | (go_at_call 141;refine(A1 _ ((h.up hb1).up hb2)).mono ?_;rintro e w3 ⟨rfl,hb3⟩)
          | (go_at_call 143;refine(P2 _ (((h.up hb1).up hb2).up hb3)).mono ?_;rintro e w4 ⟨rfl,hr4,hx4⟩)
          | (go_at_call 219;refine(HG _ hr4).mono ?_;rintro e w5 ⟨rfl,hr5,hx5⟩))
         exact⟨rfl,rfl,hr5,((((BX.of_below hb1).up hb2).up hb3).trans hx4).trans hx5⟩
       · obtain⟨glen,gne,ga,gsuf⟩:=pE_len hkr (by omega) g1
         have hrl:r.length≤300:=by have:=congrArg List.length hd;rw[List.length_drop,List.length_cons]at this;omega
         have HG:=fun W (hr:RS W B p c ts (k+1))=>ih 6 (by omega) W (k+1) _ hr (by rw[d1];exact g1)
         have HG2:Hid _:=g2
         have HNE:Hid _:=gne
         clear hres g1 g2 y1 y2 c1 c2 c3 hnn hd c1' c3' gsuf gne
         go_enter Tryz.func219,Tryz.ntmps219
         go_wp2_with (first
          | (go_at_call 176;refine P1.mono ?_;rintro e w1 ⟨rfl,hb1⟩)
          | (go_at_call 139;refine(S2 _ (h.up hb1)).mono ?_;rintro e w2 ⟨rfl,hb2⟩)
          | (go_at_call 141;refine(A1 _ ((h.up hb1).up hb2)).mono ?_;rintro e w3 ⟨rfl,hb3⟩)
          | (go_at_call 143;refine(P2 _ (((h.up hb1).up hb2).up hb3)).mono ?_;rintro e w4 ⟨rfl,hr4,hx4⟩)
          | (go_at_call 219;refine(HG _ hr4).mono ?_;rintro e w5 ⟨⟨q2,c2,rfl,hnt2,hc2,hcm2⟩,hr5,hx5⟩;simp only at hnt2 hc2 ⊢; have HNT2:Hid _:=hnt2;have HR2:Hid _:=hr5;have HX2:Hid (BX B w w5):=((((BX.of_below hb1).up hb2).up hb3).trans hx4).trans hx5;clear hnt2 hr5 hx5)
          | (go_at_call 144;refine(join1 (opN 10) a q2 c2 _ w5 opN_wf HNT2.out.1 hc2 hcm2 HNE.out (by omega)).mono ?_;rintro e w6 ⟨⟨q3,c3,rfl,hnt3,hc3,hcm3⟩,hb6⟩;have HNT3:Hid _:=hnt3;clear hnt3))
         go_ret
         injection HG2.out with hres
         rw[←hres]
         exact join_end (ret_slice (by simp)) HNT3.out hc3 hcm3 HR2.out HX2.out hb6
   · have c2':nextS (ts.drop k) [45]=false:=by simpa using c2
     rw[c2']at S2
     rw[pE_six_up c1' (by rw[c2'];rfl)]at hres
     have HG:=fun W (hr:RS W B p c ts k)=>ih 7 (by omega) W k _ hr hres
     clear hres y1 y2 c1 c2 c1' c2'
     go_enter Tryz.func219,Tryz.ntmps219
     go_wp2_with (first
      | (go_at_call 176;refine P1.mono ?_;rintro e w1 ⟨rfl,hb1⟩)
      | (go_at_call 139;refine(S2 _ (h.up hb1)).mono ?_;rintro e w2 ⟨rfl,hb2⟩)
      | (go_at_call 226;refine(HG _ ((h.up hb1).up hb2)).mono ?_;intro e w4 he;have HE:Hid (EndP B p c ts w res e w4):=EndP.step ((BX.of_below hb1).up hb2) he;rcases he.shape with⟨q,nn,cc,rfl⟩ | ⟨y,rfl⟩))
     · go_ret
       exact HE.out
     · exact⟨rfl,HE.out⟩
theorem say_must {l:List Tk}{c:UInt8}{s:List UInt8}(hl:AllS l)(hc:letb c=true)(h:∀t r,l=t::r→nam t (c::s)=false):sayB l (c::s)=false:=by
 rw[sayB_nam hl hc]
 cases l with
 | nil=>rfl
 | cons t r=>exact h t r rfl
theorem say_must_s {l:List Tk}{c:UInt8}{s:List UInt8}(hl:AllS l)(hc:letb c=false)(h:∀t r,l=t::r→sgn t (c::s)=false):sayB l (c::s)=false:=by
 rw[sayB_sgn hl hc]
 cases l with
 | nil=>rfl
 | cons t r=>exact h t r rfl
theorem RS.next_words {w w1:World}{B:Nat}{p:Option Addr}{c:Nat}{ts:List Tk}{k:Nat}{n lvl:Nat}{e:List Nd}{r:List Tk}(h:RS w B p c ts k)(hl:lvl≤8)(g:pE n lvl (ts.drop k)=some (.ok (e,r))):
 e≠[]∧e.length≤300∧e.length+r.length≤ts.length-k∧ts.drop (ts.length-r.length)=r:=by
 obtain⟨h1,h2,a,h3⟩:=pE_len h.rest.kinds hl g
 rw[List.length_drop]at h1
 have:=h.len
 exact⟨h2,by omega,h1,drop_suffix h3⟩
theorem lit_colons:(ByteArray.mk #[58,58]).toList=(ByteArray.mk #[58,58]).data.toList:=by simp[go_sem]
theorem whole_step (n:Nat)(B:Nat)(p:Option Addr)(c:Nat)(ts:List Tk)(ih:AllR n B p c ts):Reads (n+1) 0 117 B p c ts:=by
 intro w k res h hres
 have hlk:=h.le
 have hlen:=h.len
 have hall:=h.rest
 have y1:=sayB_nam (c:=105) (w:=[102]) hall (by decide)
 have y2:=sayB_sgn (l:=(ts.drop k).tail) (c:=58) (w:=[58]) (fun u hu=>hall u (List.mem_of_mem_tail hu)) (by decide)
 have S1:=says_any w B p c ts k ⟨#[105,102]⟩ h
 rw[show(ByteArray.mk #[105,102]).data.toList=[105,102] from rfl,y1]at S1
 have A1:=fun W (hr:RS W B p c ts k)=>ahead1_any W B p c ts k hr
 have I1:=itself_any (hdT (ts.drop k).tail)
 have E1:((itB (hdT (ts.drop k).tail)).toList == [58,58])=nextS (ts.drop k).tail [58,58]:=by
  rw[←y2,show([58,58]:List UInt8)=(ByteArray.mk #[58,58]).data.toList from rfl,←sayB_eq,beq_toListBytes,lit_colons]
 by_cases c1:nextN (ts.drop k) wIf=true
 · have c1':nextN (ts.drop k) [105,102]=true:=c1
   rw[c1']at S1
   by_cases c2:nextS (ts.drop k).tail [58,58]=true
   · rw[c2]at E1
     rw[pE_zero_up (by rw[c1,c2];rfl)]at hres
     have HG:=fun W (hr:RS W B p c ts k)=>ih 1 (by omega) W k _ hr hres
     clear hres y1 y2 c1 c2 c1'
     generalize hdT (ts.drop k).tail=u at *
     unfold tokV at A1 I1
     go_enter Tryz.func117,Tryz.ntmps117
     go_wp2_with (first
      | (go_at_call 139;refine S1.mono ?_;rintro e w1 ⟨rfl,hb1⟩)
      | (go_at_call 141;refine(A1 _ (h.up hb1)).mono ?_;rintro e w2 ⟨rfl,hb2⟩)
      | (go_at_call 140;refine(I1 _).mono ?_;rintro e w3 ⟨rfl,hb3⟩)
      | (go_at_call 142;refine(HG _ (((h.up hb1).up hb2).up hb3)).mono ?_;intro e w4 he;have HE:Hid (EndP B p c ts w res e w4):=EndP.step (((BX.of_below hb1).up hb2).up hb3) he;rcases he.shape with⟨q,nn,cc,rfl⟩ | ⟨y,rfl⟩))
     · go_ret
       exact HE.out
     · exact⟨rfl,HE.out⟩
   · have c2':nextS (ts.drop k).tail [58,58]=false:=by simpa using c2
     rw[c2']at E1
     obtain⟨t,r,hd,ht⟩:=nextN_cons c1
     obtain⟨d1,d2,d3⟩:=drop_cons hd
     have P1:=fun W (hr:RS W B p c ts k)=>pass_ok W B p c ts k ⟨#[105,102]⟩ hr (y1.trans c1') d2
     have ct:(nam t wIf && !nextS r [58,58])=true:=by have:=c2';rw[hd]at this;rw[ht,show nextS r [58,58]=false from this];rfl
     rw[hd,pE_zero_if ct]at hres
     have HRES:Hid _:=hres
     clear y1 y2 c1 c2 c1' c2' hres
     generalize hdT (ts.drop k).tail=u at *
     unfold tokV at A1 I1
     go_enter Tryz.func117,Tryz.ntmps117
     go_wp2_with (first
      | (go_at_call 139;refine S1.mono ?_;rintro e w1 ⟨rfl,hb1⟩)
      | (go_at_call 141;refine(A1 _ (h.up hb1)).mono ?_;rintro e w2 ⟨rfl,hb2⟩)
      | (go_at_call 140;refine(I1 _).mono ?_;rintro e w3 ⟨rfl,hb3⟩)
      | (go_at_call 143;refine(P1 _ (((h.up hb1).up hb2).up hb3)).mono ?_;rintro e w4 ⟨rfl,hr4,hx4⟩))
     have hx:BX B w w4:=(((BX.of_below hb1).up hb2).up hb3).trans hx4
     clear hx4 hb1 hb2 hb3 P1 A1 I1 S1 E1
     rcases andR_some HRES.out with⟨e1,g1,rfl⟩ | ⟨a,r1,g1,g2⟩
     · have HG:=ih 0 (by omega) w4 (k+1) _ hr4 (by rw[d1];exact g1)
       refine HG.mono ?_
       rintro e w5 ⟨rfl,hr5,hx5⟩
       go_wp2
       exact⟨rfl,rfl,hr5,hx.trans hx5⟩
     · obtain⟨na,la,sa,da⟩:=hr4.next_words (w1:=w) (n:=n) (lvl:=0) (by omega) (by rw[d1];exact g1)
       refine(ih 0 (by omega) w4 (k+1) _ hr4 (by rw[d1];exact g1)).mono ?_
       rintro e w5 ⟨⟨qa,ca,rfl,hnta,hca,hcma⟩,hr5,hx5⟩
       simp only at hnta hca hr5 ⊢
       have hX5:BX B w w5:=hx.trans hx5
       have al:=hr5.rest
       rw[da]at al
       clear g1 hr4 hx5
       go_wp2_with fail
       rcases must_some g2 with⟨m1,rfl⟩ | ⟨t2,r2,rfl,m1,g3⟩
       · refine(pass_bad w5 B p c ts _ ⟨#[116,104,101,110]⟩ hr5 (by rw[da];exact say_must al (by decide) m1)).mono ?_
         rintro e w6 ⟨rfl,hr6,hx6⟩
         go_wp2
         exact⟨rfl,rfl,hr6,hX5.trans hx6⟩
       · obtain⟨d4,d5,d6⟩:=drop_cons da
         refine(pass_ok w5 B p c ts _ ⟨#[116,104,101,110]⟩ hr5 (by rw[da];exact(sayB_nam al (by decide)).trans m1) d5).mono ?_
         rintro e w6 ⟨rfl,hr6,hx6⟩
         have hX6:BX B w w6:=hX5.trans hx6
         have hA6:NT w6 0 qa a:=hnta.bx hr5 hx6
         clear hx6 m1 hr5 hnta al
         go_wp2_with fail
         rcases andR_some g3 with⟨e1,g1,rfl⟩ | ⟨b,r3,g1,g4⟩
         · refine(ih 0 (by omega) w6 _ _ hr6 (by rw[d4];exact g1)).mono ?_
           rintro e w7 ⟨rfl,hr7,hx7⟩
           go_wp2
           exact⟨rfl,rfl,hr7,hX6.trans hx7⟩
         · obtain⟨nb,lb,sb,db⟩:=hr6.next_words (w1:=w) (n:=n) (lvl:=0) (by omega) (by rw[d4];exact g1)
           refine(ih 0 (by omega) w6 _ _ hr6 (by rw[d4];exact g1)).mono ?_
           rintro e w7 ⟨⟨qb,cb,rfl,hntb,hcb,hcmb⟩,hr7,hx7⟩
           simp only at hntb hcb hr7 ⊢
           have hX7:BX B w w7:=hX6.trans hx7
           have hA7:NT w7 0 qa a:=hA6.bx hr6 hx7
           have al:=hr7.rest
           rw[db]at al
           clear g1 hr6 hx7 hA6
           go_wp2_with fail
           rcases must_some g4 with⟨m1,rfl⟩ | ⟨t4,r4,rfl,m1,g5⟩
           · refine(pass_bad w7 B p c ts _ ⟨#[101,108,115,101]⟩ hr7 (by rw[db];exact say_must al (by decide) m1)).mono ?_
             rintro e w8 ⟨rfl,hr8,hx8⟩
             go_wp2
             exact⟨rfl,rfl,hr8,hX7.trans hx8⟩
           · obtain⟨d7,d8,d9⟩:=drop_cons db
             refine(pass_ok w7 B p c ts _ ⟨#[101,108,115,101]⟩ hr7 (by rw[db];exact(sayB_nam al (by decide)).trans m1) d8).mono ?_
             rintro e w8 ⟨rfl,hr8,hx8⟩
             have hX8:BX B w w8:=hX7.trans hx8
             have hA8:NT w8 0 qa a:=hA7.bx hr7 hx8
             have hB8:NT w8 0 qb b:=hntb.bx hr7 hx8
             clear hx8 m1 hr7 hntb al hA7
             go_wp2_with fail
             rcases andR_some g5 with⟨e1,g1,rfl⟩ | ⟨d,r5,g1,g6⟩
             · refine(ih 0 (by omega) w8 _ _ hr8 (by rw[d7];exact g1)).mono ?_
               rintro e w9 ⟨rfl,hr9,hx9⟩
               go_wp2
               exact⟨rfl,rfl,hr9,hX8.trans hx9⟩
             · obtain⟨nd,ld,sd,dd⟩:=hr8.next_words (w1:=w) (n:=n) (lvl:=0) (by omega) (by rw[d7];exact g1)
               refine(ih 0 (by omega) w8 _ _ hr8 (by rw[d7];exact g1)).mono ?_
               rintro e w9 ⟨⟨qd,cd,rfl,hntd,hcd,hcmd⟩,hr9,hx9⟩
               simp only at hntd hcd hr9 ⊢
               have HX9:Hid (BX B w w9):=hX8.trans hx9
               have HA9:Hid (NT w9 0 qa a):=hA8.bx hr8 hx9
               have HB9:Hid (NT w9 0 qb b):=hB8.bx hr8 hx9
               have HD9:Hid (NT w9 0 qd d):=hntd
               have HR9:Hid _:=hr9
               have HG6:Hid _:=g6
               clear g1 hr8 hx9 hA8 hB8 hntd hr9 g6
               go_wp2_with (go_at_call 144;refine(join3 (opN 13) a b d qa qb qd ca cb cd _ w9 opN_wf HA9.out.1 hca hcma na la HB9.out.1 hcb hcmb nb lb HD9.out.1 hcd hcmd nd ld).mono ?_;rintro e w10 ⟨⟨qe,ce,rfl,hnte,hce,hcme⟩,hbe⟩;have HNTE:Hid _:=hnte;clear hnte)
               go_ret
               injection HG6.out with hres
               rw[←hres]
               exact join_end (ret_slice (by simp;try omega)) HNTE.out hce hcme HR9.out HX9.out hbe
 · have c1':nextN (ts.drop k) [105,102]=false:=by
    cases hh:nextN (ts.drop k) [105,102]
    · rfl
    · exact absurd hh c1
   rw[c1']at S1
   rw[pE_zero_up (by rw[show nextN (ts.drop k) wIf=false from c1'];rfl)]at hres
   have HG:=fun W (hr:RS W B p c ts k)=>ih 1 (by omega) W k _ hr hres
   clear hres y1 y2 c1 c1' E1 I1 A1
   go_enter Tryz.func117,Tryz.ntmps117
   go_wp2_with (first
    | (go_at_call 139;refine S1.mono ?_;rintro e w1 ⟨rfl,hb1⟩)
    | (go_at_call 142;refine(HG _ (h.up hb1)).mono ?_;intro e w4 he;have HE:Hid (EndP B p c ts w res e w4):=EndP.step (BX.of_below hb1) he;rcases he.shape with⟨q,nn,cc,rfl⟩ | ⟨y,rfl⟩))
   · go_ret
     exact HE.out
   · exact⟨rfl,HE.out⟩
def postF:List UInt8→Option Int:=putF (putF (putF noF [99,111,110,116,97,105,110,115] 25) [99,111,110,116,97,105,110,115,65,108,108] 26) [99,111,110,116,97,105,110,115,65,110,121] 27
theorem post_op (u:Tk):postF u.l=if isCall u=true then some (callOp u)else none:=by
 unfold postF isCall callOp
 simp only[putF,noF]
 by_cases h1:u.l=[99,111,110,116,97,105,110,115,65,110,121]
 · rw[h1];decide
 · rw[if_neg h1]
   by_cases h2:u.l=[99,111,110,116,97,105,110,115,65,108,108]
   · rw[h2];decide
   · rw[if_neg h2]
     by_cases h3:u.l=[99,111,110,116,97,105,110,115]
     · rw[h3];decide
     · rw[if_neg h3]
       have e1:(u.l == wOne)=false:=by
        cases hh:(u.l == wOne)
        · rfl
        · exact absurd (beq_iff_eq.1 hh) h3
       have e2:(u.l == wAll)=false:=by
        cases hh:(u.l == wAll)
        · rfl
        · exact absurd (beq_iff_eq.1 hh) h2
       have e3:(u.l == wAny)=false:=by
        cases hh:(u.l == wAny)
        · rfl
        · exact absurd (beq_iff_eq.1 hh) h1
       rw[e1,e2,e3];rfl
theorem post_step (n:Nat)(B:Nat)(p:Option Addr)(c:Nat)(ts:List Tk)(ih:AllR n B p c ts):Reads (n+1) 7 226 B p c ts:=by
 intro w k res h hres
 have hlk:=h.le
 have hlen:=h.len
 have hmm:= @run_makeMap Tryz.prog
 rw[pE_seven]at hres
 rcases andR_some hres with⟨e1,g1,rfl⟩ | ⟨a0,r0,g1,g2⟩
 · have HG:=ih 8 (by omega) w k _ h g1
   clear hres g1
   go_enter Tryz.func226,Tryz.ntmps226
   go_wp2_with fail
   refine HG.mono ?_
   rintro e w1 ⟨rfl,hr1,hx1⟩
   go_wp2
   exact⟨rfl,rfl,hr1,hx1⟩
 · obtain⟨na,la,sa,da⟩:=h.next_words (w1:=w) (n:=n) (lvl:=8) (by omega) g1
   have HG:=ih 8 (by omega) w k _ h g1
   clear hres g1
   go_enter Tryz.func226,Tryz.ntmps226
   go_wp2_with fail
   refine HG.mono ?_
   rintro e w1 ⟨⟨q1,c1,rfl,hnt1,hc1,hcm1⟩,hr1,hx1⟩
   simp only at hnt1 hc1 hr1 ⊢
   obtain⟨w2,x2,o2,g3⟩:=(OM.made w1).put (by omega) ⟨#[99,111,110,116,97,105,110,115]⟩ (by decide) 25 (by decide) (by decide)
   have hb2:Below w1.heap.size w1 w2:=grown_below ((Below.refl _ _).alloc (Nat.le_refl _) _) g3 (Nat.le_refl _)
   obtain⟨w3,x3,o3,g4⟩:=o2.put (by omega) ⟨#[99,111,110,116,97,105,110,115,65,108,108]⟩ (by decide) 26 (by decide) (by decide)
   have hb3:=grown_below hb2 g4 (Nat.le_refl _)
   obtain⟨w4,x4,o4,g5⟩:=o3.put (by omega) ⟨#[99,111,110,116,97,105,110,115,65,110,121]⟩ (by decide) 27 (by decide) (by decide)
   have hb4:=grown_below hb3 g5 (Nat.le_refl _)
   have HM:Hid (OM w4 w1.heap.size 3 postF):=o4
   have HR4:Hid _:=hr1.up hb4
   have HX4:Hid (BX B w w4):=hx1.up hb4
   have HNT:Hid (NT w4 0 q1 a0):=hnt1.below hb4
   have HG2:Hid _:=g2
   clear o2 o3 o4 g3 g4 g5 hb2 hb3 hb4 hr1 hx1 hnt1 g2
   go_wp2_with fail
   go_loopw [3] (fun sv wr=>∃(k':Nat) (a:List Nd) (q:Option Addr) (cc:Nat),sv= .slice q a.length cc∧Hid (NT wr 0 q a)∧a.length≤cc∧cc≤maxLen∧Hid (RS wr B p c ts k')∧
    Hid (pP n a (ts.drop k')=some res)∧Hid (a≠[])∧a.length+(ts.length-k')≤300∧Hid (BX B w wr)∧Hid (OM wr w1.heap.size 3 postF)) (fun _ wr=>ts.length-(intOf ((wr.cell? ⟨B,1,none⟩).getD undef)).toNat)
   case atStart=>
    exact⟨ts.length-r0.length,a0,q1,c1,rfl,HNT,hc1,hcm1,HR4,by rw[da];exact HG2.out,na,by omega,HX4,HM⟩
   case round=>
    obtain⟨k',a,q,cc,rfl,HNT,hac,hcm,HR,HPP,HA,hal,HX,HM⟩:=hrel
    clear x2 x3 x4 HG HG2 HR4 HX4 hmm
    have hk':=HR.out.le
    have hall:=HR.out.rest
    have y1:=sayB_sgn (c:=46) (w:=[]) hall (by decide)
    by_cases c1':nextS (ts.drop k') [46]=true
    · obtain⟨t,r,hd,ht⟩:=nextS_cons c1'
      obtain⟨d1,d2,d3⟩:=drop_cons hd
      have P1:=passes_yes wr B p c ts k' ⟨#[46]⟩ HR.out (y1.trans c1') d2
      go_wp2_with fail
      refine P1.mono ?_
      rintro e w5 ⟨rfl,hr5,hx5⟩
      have hX5:BX B w w5:=HX.out.trans hx5
      have hN5:NT w5 0 q a:=HNT.out.bx HR.out hx5
      have hM5:OM w5 w1.heap.size 3 postF:=HM.out.bx HR.out hx5
      clear P1 hx5 y1
      go_wp2_with fail
      by_cases hcu:((hdT r).kind == 1)=true
      · obtain⟨u,r1,rfl⟩:∃u r1,r=u::r1:=by
         cases r with
         | nil=>exact absurd hcu (by decide)
         | cons u r1=>exact⟨u,r1,rfl⟩
        have hku:(u.kind == 1)=true:=hcu
        obtain⟨d4,d5,d6⟩:=drop_cons d1
        have hdu:hdT (ts.drop (k'+1))=u:=by rw[d1];rfl
        have HT:=take_ok w5 B p c ts (k'+1) 1 hr5 d5 (by rw[hdu];simpa using hku)
        rw[hdu]at HT
        refine HT.mono ?_
        rintro e w6 ⟨rfl,hr6,hx6⟩
        have hsu:=HR.out.all u (List.mem_of_mem_drop (i:=k'+1) (by rw[d1];exact List.mem_cons_self ..))
        have husz:u.s.size≤maxLen:=by have:=spB_size hsu;unfold Tk.l at this;unfold maxLen;simp at this;omega
        have HX6:Hid (BX B w w6):=hX5.trans hx6
        have HN6:Hid (NT w6 0 q a):=hN5.bx hr5 hx6
        have HM6:Hid (OM w6 w1.heap.size 3 postF):=hM5.bx hr5 hx6
        have HPU:Hid (postF u.s.data.toList=if isCall u=true then some (callOp u)else none):=post_op u
        have HJ:=fun W (ha:NL W q a) T=>join1 (mkN 22 0 u.s.data.toList []) a q cc T W (mkN_wf husz) ha hac hcm HA.out (by omega)
        rw[ndV_mk]at HJ
        have hpp:=HPP.out
        rw[hd]at hpp
        clear HT hx6 hX5 hN5 hM5 hdu hcu
        have al6:=hr6.rest
        rw[d4]at al6
        have HR6:Hid _:=hr6
        clear hr6
        by_cases hic:isCall u=true
        · have hpu:=HPU.out
          rw[if_pos hic]at hpu
          clear HPU
          have HPU:Hid _:=hpu
          clear hpu
          have y2:=sayB_sgn (c:=40) (w:=[]) al6 (by decide)
          by_cases c2:nextS r1 [40]=true
          · obtain⟨v,r2,rfl,hv⟩:=nextS_cons c2
            obtain⟨d7,d8,d9⟩:=drop_cons d4
            have P2:=passes_yes w6 B p c ts (k'+1+1) ⟨#[40]⟩ HR6.out (by rw[d4];exact y2.trans c2) d8
            have hcl:=pP_call ht hku hic hv hpp
            clear hpp y2 c2 c1'
            have hop:∃o,o=callOp u:=⟨_,rfl⟩
            obtain⟨o,hoo⟩:=hop
            rw[←hoo]at HPU
            have HOO:Hid (_=_):=hoo
            clear hoo
            go_wp2_with (first
             | (at_lookup;refine lookup_op w6 rfl _ _ rfl w1.heap.size 3 postF rfl HM6.out u.s rfl husz ?_;rw[HPU.out])
             | (go_at_call 176;refine P2.mono ?_;rintro e w7 ⟨rfl,hr7,hx7⟩))
            have hX7:BX B w w7:=HX6.out.trans hx7
            have hN7:NT w7 0 q a:=HN6.out.bx HR6.out hx7
            have hM7:OM w7 w1.heap.size 3 postF:=HM6.out.bx HR6.out hx7
            clear hx7 P2 HR6 HX6 HN6 HM6
            rcases hcl with⟨e1,g1,rfl⟩ | ⟨b,r3,g1,g2⟩
            · refine(ih 0 (by omega) w7 _ _ hr7 (by rw[d7];exact g1)).mono ?_
              rintro e w8 ⟨rfl,hr8,hx8⟩
              go_wp2
              exact⟨rfl,rfl,hr8,hX7.trans hx8⟩
            · obtain⟨nb,lb,sb,db⟩:=hr7.next_words (w1:=w) (n:=n) (lvl:=0) (by omega) (by rw[d7];exact g1)
              refine(ih 0 (by omega) w7 _ _ hr7 (by rw[d7];exact g1)).mono ?_
              rintro e w8 ⟨⟨qb,cb,rfl,hntb,hcb,hcmb⟩,hr8,hx8⟩
              simp only at hntb hcb hr8 ⊢
              have HX8:Hid (BX B w w8):=hX7.trans hx8
              have HA8:Hid (NT w8 0 q a):=hN7.bx hr7 hx8
              have HM8:Hid (OM w8 w1.heap.size 3 postF):=hM7.bx hr7 hx8
              have HB8:Hid (NT w8 0 qb b):=hntb
              have HR8:Hid _:=hr8
              have HLE:Hid (a.length≤300):=by show _≤_;omega
              clear g1 hr7 hx8 hX7 hN7 hM7 hntb hr8 HJ
              go_wp2_with (go_at_call 144;refine(join2 (opN o) a b q qb cc cb _ w8 opN_wf HA8.out.1 hac hcm HA.out HLE.out HB8.out.1 hcb hcmb nb lb).mono ?_;rintro e w9 ⟨⟨q9,c9,rfl,hnt9,hc9,hcm9⟩,hb9⟩;have HNT9:Hid (NT w9 0 q9 (opN o::(a++b))):=hnt9;clear hnt9)
              have hr9:=HR8.out.up hb9
              have HX9:Hid (BX B w w9):=HX8.out.up hb9
              have HM9:Hid (OM w9 w1.heap.size 3 postF):=HM8.out.up hb9
              have al9:=hr9.rest
              rw[db]at al9
              rcases g2 with⟨m1,rfl⟩ | ⟨x,r4,rfl,m1,g3⟩
              · refine(pass_bad w9 B p c ts _ ⟨#[41]⟩ hr9 (by rw[db];exact say_must_s al9 (by decide) m1)).mono ?_
                rintro e w10 ⟨rfl,hr10,hx10⟩
                go_wp2
                exact⟨rfl,rfl,hr10,HX9.out.trans hx10⟩
              · obtain⟨f1,f2,f3⟩:=drop_cons db
                refine(pass_ok w9 B p c ts _ ⟨#[41]⟩ hr9 (by rw[db];exact(sayB_sgn al9 (by decide)).trans m1) f2).mono ?_
                rintro e w10 ⟨rfl,hr10,hx10⟩
                have HN10:Hid _:=HNT9.out.bx hr9 hx10
                have HX10:Hid (BX B w w10):=HX9.out.trans hx10
                have HM10:Hid (OM w10 w1.heap.size 3 postF):=HM9.out.bx hr9 hx10
                have HR10:Hid _:=hr10
                have HG3:Hid _:=g3
                clear hr9 hx10 hr10 g3 m1
                go_wp2
                have hr10:=HR10.out
                refine⟨⟨_,opN o::(a++b),q9,c9,by simp,HN10,hc9,hcm9,HR10,?_,by show _≠_;simp,?_,HX10,HM10⟩,?_⟩
                · show pP _ _ _=_;rw[f1,HOO.out];exact HG3.out
                · simp only[List.length_cons,List.length_append]at *; omega
                · rw[hr10.c1,HR.out.c1];simp only[List.length_cons]at *; simp[intOf];omega
          · have c2':nextS r1 [40]=false:=by simpa using c2
            have P2:=passes_no w6 B p c ts (k'+1+1) ⟨#[40]⟩ HR6.out (by rw[d4];exact y2.trans c2')
            have HGET:Hid _:=pP_get ht hku (by rw[c2'];simp) hpp
            clear hpp y2 c2 c1' c2'
            go_wp2_with (first
             | (at_lookup;refine lookup_op w6 rfl _ _ rfl w1.heap.size 3 postF rfl HM6.out u.s rfl husz ?_;rw[HPU.out])
             | (go_at_call 176;refine P2.mono ?_;rintro e w7 ⟨rfl,hb7⟩;have HRN:Hid _:=HR6.out.up hb7;have HNTN:Hid (NT w7 0 q a):=HN6.out.below hb7;have HXN:Hid (BX B w w7):=HX6.out.up hb7;have HMN:Hid (OM w7 w1.heap.size 3 postF):=HM6.out.up hb7)
             | (go_at_call 144;refine(HJ _ HNTN.out.1 _).mono ?_;rintro e w8 ⟨⟨q8,c8,rfl,hnt8,hc8,hcm8⟩,hb8⟩))
            have hr8:=HRN.out.up hb8
            refine⟨⟨k'+1+1,mkN 22 0 u.s.data.toList []::a,q8,c8,by simp,hnt8,hc8,hcm8,hr8,?_,by show _≠_;simp,?_,HXN.out.up hb8,HMN.out.up hb8⟩,?_⟩
            · show pP _ _ _=_;rw[d4];exact HGET.out
            · simp;omega
            · rw[hr8.c1,HR.out.c1];simp[intOf];omega
        · have hpu:=HPU.out
          rw[if_neg hic]at hpu
          clear HPU
          have HPU:Hid _:=hpu
          have HGET:Hid _:=pP_get ht hku (by rw[show isCall u=false from by simpa using hic];rfl) hpp
          have HRN:Hid _:=HR6.out
          have HNTN:Hid (NT w6 0 q a):=HN6.out
          have HXN:Hid (BX B w w6):=HX6.out
          have HMN:Hid (OM w6 w1.heap.size 3 postF):=HM6.out
          clear hpp hpu c1'
          go_wp2_with (first
           | (at_lookup;refine lookup_op w6 rfl _ _ rfl w1.heap.size 3 postF rfl HM6.out u.s rfl husz ?_;rw[HPU.out])
           | (go_at_call 144;refine(HJ _ HNTN.out.1 _).mono ?_;rintro e w8 ⟨⟨q8,c8,rfl,hnt8,hc8,hcm8⟩,hb8⟩))
          have hr8:=HRN.out.up hb8
          refine⟨⟨k'+1+1,mkN 22 0 u.s.data.toList []::a,q8,c8,by simp,hnt8,hc8,hcm8,hr8,?_,by show _≠_;simp,?_,HXN.out.up hb8,HMN.out.up hb8⟩,?_⟩
          · show pP _ _ _=_;rw[d4];exact HGET.out
          · simp;omega
          · rw[hr8.c1,HR.out.c1];simp[intOf];omega
      · have hcu':((hdT (ts.drop (k'+1))).kind == 1)=false:=by rw[d1];simpa using hcu
        refine(take_bad w5 B p c ts (k'+1) 1 hr5 hcu').mono ?_
        rintro e w6 ⟨rfl,hr6,hx6⟩
        have HE:Hid (res= .error (r.length,1)):=by
         refine pP_bad (n:=n) (a:=a) ht (fun u r1 e=>?_) (by rw[←hd];exact HPP.out)
         subst e;exact Bool.not_eq_true _▸hcu
        have HK:Hid (ts.length-r.length=k'+1):=d3
        clear hcu hcu' HPP
        go_wp2
        refine⟨rfl,?_⟩
        rw[HE.out]
        refine⟨rfl,?_,hX5.trans hx6⟩
        simp only[HK.out];exact hr6
    · have c1f:nextS (ts.drop k') [46]=false:=by simpa using c1'
      have P1:=passes_no wr B p c ts k' ⟨#[46]⟩ HR.out (y1.trans c1f)
      have HE:Hid (res= .ok (a,ts.drop k')):=pP_stop c1f HPP.out
      clear y1 c1' c1f HPP
      go_wp2_with (go_at_call 176;refine P1.mono ?_;rintro e w5 ⟨rfl,hb5⟩)
      go_ret
      rw[HE.out]
      refine⟨⟨q,cc,rfl,HNT.out.below hb5,hac,hcm⟩,?_,HX.out.up hb5⟩
      have e1:ts.length-(ts.drop k').length=k':=by rw[List.length_drop];omega
      simp only[e1]
      exact HR.out.up hb5
end Go.Proofs.YtjkepjbfgeldnaaGreatDoor
namespace Go.Proofs.YtjkepjbfgeldnaaGreatDoor
open Go.RowKit Go.Maps Go.Shelf
set_option maxRecDepth 100000
theorem atoi_ok (s:ByteArray)(v:Int)(w:World)(hs:s.size≤1000)(h:Lib.atoiAll s.data.toList= .ok v):
 Calls Tryz.prog 240 #[.string s] w fun e w'=>e= .returned (.tuple #[.int .i64 v,.nilIface])∧Below w.heap.size w w':=by
 refine(Any.strconv_Atoi_ok Tryz.laysC172 s (by omega) v h w).mono ?_
 rintro e w' ⟨rfl,rfl | ⟨t,rfl⟩⟩
 · exact⟨rfl,Below.refl _ _⟩
 · exact⟨rfl,Lib.bytesWorld_below _ _ _⟩
theorem atoi_range (s:ByteArray)(w:World)(hs:s.size≤1000)(h:Lib.atoiAll s.data.toList= .range)(he:ErrIn w):
 Calls Tryz.prog 240 #[.string s] w fun e w'=>(∃n T N,e= .returned (.tuple #[.int .i64 n,.iface T (.pointer (some ⟨N,0,none⟩))]))∧Below w.heap.size w w':=by
 obtain⟨ev,h1,h2⟩:=he
 refine(Any.strconv_Atoi_range Tryz.laysC172 s (by omega) h ev w h1 h2).mono ?_
 rintro e w' ⟨N,rfl,_,_,hb⟩
 exact⟨⟨_,_,N,rfl⟩,hb⟩
theorem number_bad (w:World)(B:Nat)(p:Option Addr)(c:Nat)(ts:List Tk)(k:Nat)(lead:ByteArray)(h:RS w B p c ts k)(hd:((hdT (ts.drop k)).kind == 2)=false):
 Calls Tryz.prog 236 #[.pointer (some ⟨B,0,none⟩),.string lead] w fun e w'=>e= .panicked (thrownP 1)∧RS w' B p c ts k∧BX B w w':=by
 have H1:=ahead0_any w B p c ts k h
 generalize hdT (ts.drop k)=t at *
 unfold tokV at H1
 go_enter Tryz.func236,Tryz.ntmps236
 go_wp2_with fail
 refine H1.mono ?_
 rintro e w1 ⟨rfl,hb1⟩
 have hbt:Below w1.heap.size w1 (w1.alloc (.cells #[.int .i64 t.kind,.string t.s,.int .i64 t.at_] 78)):=(Below.refl _ _).alloc (Nat.le_refl _) _
 go_wp2_with fail
 refine(pneed_false _ _).mono ?_
 rintro e w2 ⟨rfl,rfl⟩
 go_wp2
 exact⟨rfl,rfl,(h.up hb1).up hbt,(BX.of_below hb1).up hbt⟩
theorem number_over (w:World)(B:Nat)(p:Option Addr)(c:Nat)(ts:List Tk)(k:Nat)(lead:ByteArray)(h:RS w B p c ts k)(hd:(hdT (ts.drop k)).kind=2)(hl:lead.size≤10)(hs:(hdT (ts.drop k)).s.size≤60)
 (ha:Lib.atoiAll (lead.data.toList++(hdT (ts.drop k)).l)= .range):
 Calls Tryz.prog 236 #[.pointer (some ⟨B,0,none⟩),.string lead] w fun e w'=>e= .panicked (thrownP 5)∧RS w' B p c ts k∧BX B w w':=by
 have H1:=ahead0_any w B p c ts k h
 generalize hdT (ts.drop k)=t at *
 unfold tokV at H1
 have HA:=fun W=>atoi_range (lead++t.s) W (by simp;omega) (by rw[←ha];simp[Tk.l])
 go_enter Tryz.func236,Tryz.ntmps236
 go_wp2_with fail
 refine H1.mono ?_
 rintro e w1 ⟨rfl,hb1⟩
 have hbt:Below w1.heap.size w1 (w1.alloc (.cells #[.int .i64 t.kind,.string t.s,.int .i64 t.at_] 78)):=(Below.refl _ _).alloc (Nat.le_refl _) _
 rw[hd]at hbt
 have hr:=(h.up hb1).up hbt
 go_wp2_with fail
 refine(pneed_true _ _).mono ?_
 rintro e w2 ⟨rfl,rfl⟩
 go_wp2_with fail
 refine(HA _ hr.er).mono ?_
 rintro e w3 ⟨⟨n,T,N,rfl⟩,hb3⟩
 go_wp2_with fail
 refine(pneed_false _ _).mono ?_
 rintro e w4 ⟨rfl,rfl⟩
 go_wp2
 exact⟨rfl,rfl,hr.up hb3,((BX.of_below hb1).up hbt).up hb3⟩
theorem number_ok (w:World)(B:Nat)(p:Option Addr)(c:Nat)(ts:List Tk)(k:Nat)(lead:ByteArray)(v:Int)(h:RS w B p c ts k)(hk:k<ts.length)(hd:(hdT (ts.drop k)).kind=2)(hl:lead.size≤10)(hs:(hdT (ts.drop k)).s.size≤60)
 (ha:Lib.atoiAll (lead.data.toList++(hdT (ts.drop k)).l)= .ok v) (hv:v≤9223372036854775807):
 Calls Tryz.prog 236 #[.pointer (some ⟨B,0,none⟩),.string lead] w fun e w'=>(∃q cc,e= .returned (.slice q 1 cc)∧NT w' 0 q [mkN 2 v [] []]∧1≤cc∧cc≤maxLen)∧RS w' B p c ts (k+1)∧BX B w w':=by
 have H1:=ahead0_any w B p c ts k h
 have hkk:(k:Int)≤300:=by have:=h.len;omega
 generalize hdT (ts.drop k)=t at *
 unfold tokV at H1
 have HA:=fun W=>atoi_ok (lead++t.s) v W (by simp;omega) (by rw[←ha];simp[Tk.l])
 have HJ:=fun W=>join0 (mkN 2 v [] []) W ⟨Nat.zero_le _,Nat.zero_le _,hv⟩
 rw[show ndV (mkN 2 v [] [])= .agg #[.int .i64 2,.int .i64 v,.string ⟨#[]⟩,.string ⟨#[]⟩] from rfl]at HJ
 go_enter Tryz.func236,Tryz.ntmps236
 go_wp2_with fail
 refine H1.mono ?_
 rintro e w1 ⟨rfl,hb1⟩
 have hbt:Below w1.heap.size w1 (w1.alloc (.cells #[.int .i64 t.kind,.string t.s,.int .i64 t.at_] 78)):=(Below.refl _ _).alloc (Nat.le_refl _) _
 rw[hd]at hbt
 have hr:=(h.up hb1).up hbt
 go_wp2_with fail
 refine(pneed_true _ _).mono ?_
 rintro e w2 ⟨rfl,rfl⟩
 go_wp2_with fail
 refine(HA _).mono ?_
 rintro e w3 ⟨rfl,hb3⟩
 have hr3:=hr.up hb3
 have c13:=hr3.c1
 have f13:=hr3.fz
 go_wp2_with (first
  | (go_at_call 118;refine(pneed_true _ _).mono ?_;rintro e w4 ⟨rfl,rfl⟩)
  | (go_at_call 144;refine(HJ _).mono ?_;rintro e w5 ⟨⟨q,cc,rfl,hnt,hc,hcm⟩,hb5⟩))
 go_ret
 refine⟨⟨q,cc,rfl,hnt,hc,hcm⟩,(hr3.set (k':=k+1) (by omega)).up hb5,?_⟩
 exact((((BX.of_below hb1).up hbt).up hb3).set 1 _).up hb5
theorem var_fault {s:List UInt8}(h:nfault s=0):xfault [mkN 8 0 s []]=if rsv s=true then 1 else 0:=by
 obtain⟨c,r,e,hc⟩:=name_head h
 have hq:¬s.head? =some 63:=by
  rw[e];intro hh;injection hh with hh;subst hh;cases hc
 have hv:varOk s= !rsv s:=by unfold varOk;rw[if_neg hq,h];rfl
 have hx:exOk (mkN 8 0 s [])= !rsv s:=by
  unfold exOk
  rw[if_neg (by simp[mkN]),if_neg (by simp[mkN,prt])]
  simp[mkN,hv]
 unfold xfault isEx
 rw[if_neg (by simp)]
 cases hr:rsv s
 · rw[hr]at hx
   have hx':exOk ⟨8,0,⟨s.toArray⟩,⟨#[]⟩⟩=true:=hx
   simp[pastE,hx',mkN,prt,partsE]
 · rw[hr]at hx
   simp[pastE,hx]
theorem lit_false:(ByteArray.mk #[102,97,108,115,101]).toList=[102,97,108,115,101]:=by simp[go_sem]
theorem lit_true:(ByteArray.mk #[116,114,117,101]).toList=[116,114,117,101]:=by simp[go_sem]
theorem mkN_self (op:Int)(s:ByteArray):mkN op 0 s.data.toList []=⟨op,0,s,⟨#[]⟩⟩:=by unfold mkN;simp
theorem named_any (B:Nat)(p:Option Addr)(c:Nat)(ts:List Tk)(w:World)(k:Nat)(t:Tk)(r:List Tk)(res:PRes)(h:RS w B p c ts k)(hd:ts.drop k=t::r)(ht:t.kind=1)
 (hres:(if nextS r [58,58]=true then must (fun u=>u.kind == 3) r.tail fun u r2=>some (.ok ([mkN 4 0 t.l u.l],r2))
  else if (t.l == wTrue)=true then some (.ok ([mkN 1 1 [] []],r))
  else if (t.l == wFalse)=true then some (.ok ([mkN 1 0 [] []],r))
  else if rsv t.l=true then some (.error (r.length,1))
  else some (.ok ([mkN 8 0 t.l []],r)))=some res):
 Calls Tryz.prog 235 #[.pointer (some ⟨B,0,none⟩)] w fun e w'=>EndP B p c ts w res e w':=by
 have hlk:=h.le
 have hlen:=h.len
 obtain⟨d1,d2,d3⟩:=drop_cons hd
 have hdt:hdT (ts.drop k)=t:=by rw[hd];rfl
 have hst:=h.all t (List.mem_of_mem_drop (i:=k) (by rw[hd];exact List.mem_cons_self ..))
 have hnf:=spB_one hst ht
 have htsz:t.s.size≤maxLen:=by have:=spB_size hst;unfold Tk.l at this;unfold maxLen;simp at this;omega
 have HT:=take_ok w B p c ts k 1 h d2 (by rw[hdt];exact ht)
 rw[hdt]at HT
 have al:AllS r:=fun u hu=>h.all u (List.mem_of_mem_drop (i:=k) (by rw[hd];exact List.mem_cons_of_mem _ hu))
 have y1:=sayB_sgn (c:=58) (w:=[58]) al (by decide)
 go_enter Tryz.func235,Tryz.ntmps235
 go_wp2_with fail
 refine HT.mono ?_
 rintro e w1 ⟨rfl,hr1,hx1⟩
 clear HT
 go_wp2_with fail
 by_cases c1:nextS r [58,58]=true
 · obtain⟨v,r1,rfl,hv⟩:=nextS_cons c1
   obtain⟨d4,d5,d6⟩:=drop_cons d1
   rw[if_pos c1]at hres
   refine(passes_yes w1 B p c ts (k+1) ⟨#[58,58]⟩ hr1 (by rw[d1];exact y1.trans c1) d5).mono ?_
   rintro e w2 ⟨rfl,hr2,hx2⟩
   have hX2:BX B w w2:=hx1.trans hx2
   clear hx1 hx2 hr1
   go_wp2_with fail
   rcases must_some hres with⟨m1,rfl⟩ | ⟨u,r2,hru,m1,g1⟩
   · have hbad:=hd_bad (kd:=3) (by decide) m1
     rw[List.tail_cons,←d4]at hbad
     refine(take_bad w2 B p c ts (k+1+1) 3 hr2 hbad).mono ?_
     rintro e w3 ⟨rfl,hr3,hx3⟩
     have HK:Hid (ts.length-r1.length=k+1+1):=d6
     clear hbad m1
     go_wp2
     refine⟨rfl,rfl,?_,hX2.trans hx3⟩
     simp only[List.tail_cons,HK.out];exact hr3
   · rw[List.tail_cons]at hru
     subst hru
     obtain⟨d7,d8,d9⟩:=drop_cons d4
     have hdu:hdT (ts.drop (k+1+1))=u:=by rw[d4];rfl
     have HT:=take_ok w2 B p c ts (k+1+1) 3 hr2 d8 (by rw[hdu];simpa using m1)
     rw[hdu]at HT
     have hsu:=h.all u (List.mem_of_mem_drop (i:=k+1+1) (by rw[d4];exact List.mem_cons_self ..))
     have husz:u.s.size≤maxLen:=by have:=spB_size hsu;unfold Tk.l at this;unfold maxLen;simp at this;omega
     have HJ:=fun W=>join0 (mkN 4 0 t.l u.l) W ⟨by show t.s.data.toList.toArray.size≤_;simpa using htsz,by show u.s.data.toList.toArray.size≤_;simpa using husz,by show(0:Int)≤_;decide⟩
     rw[show ndV (mkN 4 0 t.l u.l)= .agg #[.int .i64 4,.int .i64 0,.string t.s,.string u.s] from by unfold ndV mkN Tk.l;simp]at HJ
     have HG:Hid _:=g1
     have HK:Hid (ts.length-r2.length=k+1+1+1):=d9
     clear hdu m1 g1 hres
     go_wp2_with (first
      | (go_at_call 206;refine HT.mono ?_;rintro e w3 ⟨rfl,hr3,hx3⟩)
      | (go_at_call 144;refine(HJ _).mono ?_;rintro e w4 ⟨⟨q,cc,rfl,hnt,hc,hcm⟩,hb4⟩))
     go_ret
     injection HG.out with hres
     rw[←hres]
     refine⟨⟨q,cc,rfl,hnt,hc,hcm⟩,?_,(hX2.trans hx3).up hb4⟩
     simp only[HK.out];exact hr3.up hb4
 · have c1':nextS r [58,58]=false:=by simpa using c1
   rw[if_neg c1]at hres
   refine(passes_no w1 B p c ts (k+1) ⟨#[58,58]⟩ hr1 (by rw[d1];exact y1.trans c1')).mono ?_
   rintro e w2 ⟨rfl,hb2⟩
   have hr2:=hr1.up hb2
   have hX2:BX B w w2:=hx1.up hb2
   have HK:Hid (ts.length-r.length=k+1):=d3
   clear hx1 hb2 hr1 c1 c1' y1
   have EF:(t.s.toList == [102,97,108,115,101])=(t.l == wFalse):=by rw[ByteArray.toList_eq];rfl
   have ET:(t.s.toList == [116,114,117,101])=(t.l == wTrue):=by rw[ByteArray.toList_eq];rfl
   by_cases c2:(t.l == wTrue)=true
   · rw[if_pos c2]at hres
     have c3:(t.l == wFalse)=false:=by rw[beq_iff_eq.1 c2];decide
     rw[c2]at ET
     rw[c3]at EF
     have HJ:=fun W=>join0 (mkN 1 1 [] []) W ⟨Nat.zero_le _,Nat.zero_le _,by show(1:Int)≤_;decide⟩
     rw[show ndV (mkN 1 1 [] [])= .agg #[.int .i64 1,.int .i64 1,.string ⟨#[]⟩,.string ⟨#[]⟩] from rfl]at HJ
     have HG:Hid _:=hres
     clear hres c2 c3
     go_wp2_with (go_at_call 144;refine(HJ _).mono ?_;rintro e w4 ⟨⟨q,cc,rfl,hnt,hc,hcm⟩,hb4⟩)
     go_ret
     injection HG.out with hres
     rw[←hres]
     refine⟨⟨q,cc,rfl,hnt,hc,hcm⟩,?_,hX2.up hb4⟩
     simp only[HK.out];exact hr2.up hb4
   · rw[if_neg c2]at hres
     have c2':(t.l == wTrue)=false:=by simpa using c2
     rw[c2']at ET
     by_cases c3:(t.l == wFalse)=true
     · rw[if_pos c3]at hres
       rw[c3]at EF
       have HJ:=fun W=>join0 (mkN 1 0 [] []) W ⟨Nat.zero_le _,Nat.zero_le _,by show(0:Int)≤_;decide⟩
       rw[show ndV (mkN 1 0 [] [])= .agg #[.int .i64 1,.int .i64 0,.string ⟨#[]⟩,.string ⟨#[]⟩] from rfl]at HJ
       have HG:Hid _:=hres
       clear hres c2 c3 c2'
       go_wp2_with (go_at_call 144;refine(HJ _).mono ?_;rintro e w4 ⟨⟨q,cc,rfl,hnt,hc,hcm⟩,hb4⟩)
       go_ret
       injection HG.out with hres
       rw[←hres]
       refine⟨⟨q,cc,rfl,hnt,hc,hcm⟩,?_,hX2.up hb4⟩
       simp only[HK.out];exact hr2.up hb4
     · rw[if_neg c3]at hres
       have c3':(t.l == wFalse)=false:=by simpa using c3
       rw[c3']at EF
       have HJ:=fun W=>join0 (mkN 8 0 t.s.data.toList []) W (mkN_wf htsz)
       rw[ndV_mk]at HJ
       have hvf:=var_fault hnf
       have HC:=fun W q cc (hn:NL W q [mkN 8 0 t.s.data.toList []])=>tcheck_any [mkN 8 0 t.s.data.toList []] q cc W hn (by unfold maxLen;simp)
       simp only[List.length_cons,List.length_nil,Nat.zero_add]at HC
       by_cases c4:rsv t.l=true
       · rw[if_pos c4]at hres hvf
         have HC2:=HC
         rw[show xfault [mkN 8 0 t.s.data.toList []]=1 from hvf]at HC2
         have HG:Hid _:=hres
         clear hres c2 c3 c2' c3' hvf HC c4
         go_wp2_with (first
          | (go_at_call 144;refine(HJ _).mono ?_;rintro e w4 ⟨⟨q,cc,rfl,hnt,hc,hcm⟩,hb4⟩)
          | (go_at_call 72;refine(HC2 _ q cc hnt.1).mono ?_;rintro e w5 ⟨rfl,hb5⟩;rw[show eV 1= .iface 41 (.int .i64 1) from rfl])
          | (go_at_call 118;refine(pneed_false _ _).mono ?_;rintro e w6 ⟨rfl,rfl⟩))
         injection HG.out with hres
         refine⟨rfl,?_⟩
         rw[←hres]
         refine⟨rfl,?_,(hX2.up hb4).up hb5⟩
         simp only[HK.out];exact(hr2.up hb4).up hb5
       · rw[if_neg c4]at hres hvf
         have HC2:=HC
         rw[show xfault [mkN 8 0 t.s.data.toList []]=0 from hvf]at HC2
         have HG:Hid _:=hres
         clear hres c2 c3 c2' c3' hvf HC c4
         go_wp2_with (first
          | (go_at_call 144;refine(HJ _).mono ?_;rintro e w4 ⟨⟨q,cc,rfl,hnt,hc,hcm⟩,hb4⟩)
          | (go_at_call 72;refine(HC2 _ q cc hnt.1).mono ?_;rintro e w5 ⟨rfl,hb5⟩;rw[show eV 0= .nilIface from rfl])
          | (go_at_call 118;refine(pneed_true _ _).mono ?_;rintro e w6 ⟨rfl,rfl⟩))
         go_ret
         injection HG.out with hres
         rw[←hres]
         refine⟨⟨q,cc,rfl,hnt.below hb5,hc,hcm⟩,?_,(hX2.up hb4).up hb5⟩
         simp only[HK.out];exact(hr2.up hb4).up hb5
end Go.Proofs.YtjkepjbfgeldnaaGreatDoor
namespace Go.Proofs.YtjkepjbfgeldnaaGreatDoor
open Go.RowKit
set_option maxRecDepth 100000
def ListP (op:Int)(B:Nat)(p:Option Addr)(c:Nat)(ts:List Tk)(w:World)(res:PRes)(e:Ending)(w':World):Prop:=
 match res with
 | .ok x=>(∃vs q cc,e= .returned (.slice q vs.length cc)∧LL w' q vs∧x.1=mkN op vs.length [] []::vs.flatten∧(∀u∈vs,u≠[])∧vs.flatten.length≤300∧vs.length≤300)∧RS w' B p c ts (ts.length-x.2.length)∧BX B w w'
 | .error y=>e= .panicked (thrownP y.2)∧RS w' B p c ts (ts.length-y.1)∧BX B w w'
def SetI (n:Nat)(res:PRes)(vs:List (List Nd))(l:List Tk):Prop:=
 (nextS l [93]=true∧res= .ok (mkN 5 vs.length [] []::vs.flatten,l.tail))∨
 (nextS l [93]=false∧((vs=[]∧pS n 0 [] l=some res)∨(vs≠[]∧nextS l [44]=true∧pS n vs.length vs.flatten l.tail=some res)∨(vs≠[]∧nextS l [44]=false∧res= .error (l.length,1))))
theorem SetI.start {n:Nat}{res:PRes}{l:List Tk}(h:(if nextS l [93]=true then some (.ok ([mkN 5 0 [] []],l.tail))else pS n 0 [] l)=some res):SetI n res [] l:=by
 by_cases c:nextS l [93]=true
 · rw[if_pos c]at h;injection h with h;exact Or.inl ⟨c,h.symm⟩
 · rw[if_neg c]at h;exact Or.inr ⟨by simpa using c,Or.inl ⟨rfl,h⟩⟩
theorem SetI.part {n:Nat}{res:PRes}{vs:List (List Nd)}{l:List Tk}(h:pS n vs.length vs.flatten l=some res):
 (∃e,pE n 0 l=some (.error e)∧res= .error e)∨∃b r,pE n 0 l=some (.ok (b,r))∧SetI n res (vs++[b]) r:=by
 rcases pS_go h with h1 | ⟨b,r,h1,h2⟩
 · exact Or.inl h1
 · refine Or.inr ⟨b,r,h1,?_⟩
   have ef:(vs++[b]).flatten=vs.flatten++b:=by simp
   have el:(vs++[b]).length=vs.length+1:=by simp
   have hne:vs++[b]≠[]:=by simp
   unfold SetI
   rw[ef,el]
   rcases h2 with⟨c1,h3⟩ | ⟨c1,c2,h3⟩ | ⟨c1,c2,h3⟩
   · exact Or.inl ⟨c1,h3⟩
   · exact Or.inr ⟨c1,Or.inr (Or.inl ⟨hne,c2,h3⟩)⟩
   · exact Or.inr ⟨c1,Or.inr (Or.inr ⟨hne,c2,h3⟩)⟩
theorem listSet_any (n:Nat)(B:Nat)(p:Option Addr)(c:Nat)(ts:List Tk)(ih:AllR n B p c ts)(w:World)(k:Nat)(res:PRes)(h:RS w B p c ts k)(hres:SetI n res [] (ts.drop k)):
 Calls Tryz.prog 237 #[.pointer (some ⟨B,0,none⟩),.func (.func 117) #[.pointer (some ⟨B,0,none⟩)] #[],.string ⟨#[93]⟩] w fun e w'=>ListP 5 B p c ts w res e w':=by
 have hlk:=h.le
 have hlen:=h.len
 have hlow:=h.low
 have hBl:=h.lt
 have eg:∀args w,(callFunc 117 args).run Tryz.prog w= .ok (.enter 117 args) w:=enters_of Tryz.func117 (by kernel_rfl) rfl
 have HS0:Hid (SetI n res [] (ts.drop k)):=hres
 have H0:Hid (RS w B p c ts k):=h
 clear hres h
 go_enter Tryz.func237,Tryz.ntmps237
 go_wp2_with fail
 go_loopw [7] (fun pv wr=>∃(k':Nat) (vs:List (List Nd)),Hid (OW wr w.heap.size pv vs)∧Hid (SetI n res vs (ts.drop k'))∧Hid (RS wr B p c ts k')∧Hid (BX B w wr)∧Hid (∀u∈vs,u≠[])∧
  vs.length+(ts.length-k')≤300∧Hid (vs.flatten.length+(ts.length-k')≤300)) (fun _ wr=>ts.length-(intOf ((wr.cell? ⟨B,1,none⟩).getD undef)).toNat)
 case atStart=>exact⟨k,[],OW.nil _ _,HS0,H0,BX.refl _ _,(fun u hu=>absurd hu (by simp)),(by show 0+_≤_;omega),(by show 0+_≤_;omega)⟩
 case round=>
  obtain⟨k',vs,HO,HS,HR,HX,HN,hvl,HF⟩:=hrel
  have hk':=HR.out.le
  have hall:=HR.out.rest
  have y1:=sayB_sgn (c:=93) (w:=[]) hall (by decide)
  obtain⟨qv,cv,rfl,hcv,hcvm⟩:∃qv cv,u7= .slice qv vs.length cv∧vs.length≤cv∧cv≤maxLen:=by
   obtain⟨q,c,h1,_,h2,h3⟩:=HO.out.ol.lists
   exact⟨q,c,h1,h2,h3⟩
  by_cases c1:nextS (ts.drop k') [93]=true
  · obtain⟨t,r,hd,ht⟩:=nextS_cons c1
    obtain⟨d1,d2,d3⟩:=drop_cons hd
    have P1:=passes_yes wr B p c ts k' ⟨#[93]⟩ HR.out (y1.trans c1) d2
    have HE:Hid (res= .ok (mkN 5 vs.length [] []::vs.flatten,r)):=by
     rcases HS.out with⟨_,h2⟩ | ⟨h2,_⟩
     · rw[hd]at h2;exact h2
     · rw[c1]at h2;cases h2
    have HK:Hid (ts.length-r.length=k'+1):=d3
    clear y1 c1 HS hd
    go_wp2_with (go_at_call 176;refine P1.mono ?_;rintro e w2 ⟨rfl,hr2,hx2⟩)
    go_ret
    rw[HE.out]
    have hO2:=HO.out.nodal (Nodal.bx HR.out hx2)
    obtain⟨q2,c2,e2,hll,_,_⟩:=hO2.ol.lists
    refine⟨⟨vs,q2,c2,?_,hll,rfl,HN.out,by have:=HF.out;omega,by omega⟩,?_,HX.out.trans hx2⟩
    · rw[←e2];rfl
    · simp only[HK.out];exact hr2
  · have c1':nextS (ts.drop k') [93]=false:=by simpa using c1
    have P1:=passes_no wr B p c ts k' ⟨#[93]⟩ HR.out (y1.trans c1')
    go_wp2_with fail
    refine P1.mono ?_
    rintro e w2 ⟨rfl,hb2⟩
    have hr2:=HR.out.up hb2
    have hX2:BX B w w2:=HX.out.up hb2
    have hO2:=HO.out.nodal (Nodal.below hb2)
    have hs:(vs=[]∧pS n 0 [] (ts.drop k')=some res)∨(vs≠[]∧nextS (ts.drop k') [44]=true∧pS n vs.length vs.flatten (ts.drop k').tail=some res)∨(vs≠[]∧nextS (ts.drop k') [44]=false∧res= .error ((ts.drop k').length,1)):=by
     rcases HS.out with⟨h2,_⟩ | ⟨_,h2⟩
     · rw[h2]at c1';cases c1'
     · exact h2
    have y2:=sayB_sgn (c:=44) (w:=[]) hall (by decide)
    clear P1 y1 c1 c1' HS
    rcases hs with⟨rfl,h2⟩ | ⟨hne,c2,h2⟩ | ⟨hne,c2,rfl⟩
    · clear y2 HO
      rcases SetI.part (vs:=([]:List (List Nd))) h2 with⟨e1,g1,rfl⟩ | ⟨b,r,g1,g2⟩
      · have HG:=fun W (hr:RS W B p c ts k')=>ih 0 (by omega) W k' _ hr (by rw[(show ts.drop k'=ts.drop k' from rfl)];exact g1)
        clear g1
        go_wp2_with (go_at_fn 117;refine(HG _ hr2).mono ?_;rintro e w4 ⟨rfl,hr4,hx4⟩)
        exact⟨rfl,rfl,hr4,hX2.trans hx4⟩
      · obtain⟨nb,lb,sb,db⟩:=hr2.next_words (w1:=w) (n:=n) (lvl:=0) (by omega) (by rw[(show ts.drop k'=ts.drop k' from rfl)];exact g1)
        have HG:=fun W (hr:RS W B p c ts k')=>ih 0 (by omega) W k' _ hr (by rw[(show ts.drop k'=ts.drop k' from rfl)];exact g1)
        have hbl:b.length≠0:=fun e=>nb (List.eq_nil_of_length_eq_zero e)
        have HG2:Hid (SetI n res (([]:List (List Nd))++[b]) r):=g2
        have HNB:Hid (b≠[]):=nb
        have HDB:Hid (ts.drop (ts.length-r.length)=r):=db
        have HOO:Hid (OW w2 w.heap.size (.slice qv (([]:List (List Nd))).length cv) ([]:List (List Nd))):=hO2
        have HXQ:Hid (BX B w w2):=hX2
        have HRQ:Hid (RS w2 B p c ts k'):=hr2
        clear g1 g2 nb db
        go_wp2_with (first
         | (go_at_fn 117;refine(HG _ HRQ.out).mono ?_;rintro e w4 ⟨⟨qb,cb,rfl,hntb,hcb,hcmb⟩,hr4,hx4⟩;simp only at hntb hcb hr4 ⊢; have HNT4:Hid (NT w4 0 qb b):=hntb;have HR4:Hid (RS w4 B p c ts (ts.length-r.length)):=hr4;have HX4:Hid (BX B w w4):=HXQ.out.trans hx4;have HO4:Hid (OW w4 w.heap.size (.slice qv (([]:List (List Nd))).length cv) ([]:List (List Nd))):=HOO.out.nodal (Nodal.bx HRQ.out hx4);clear hntb hr4 hx4)
         | (at_builtin;(refine append_ow w4 rfl (.tmp 17) (.tmp 20) rfl w.heap.size (.slice qv 0 cv) ([]:List (List Nd)) rfl HO4.out b qb cb HNT4.out hcb hcmb rfl (by simp;try omega) HX4.out.size ?_);intro v5 w5 hown5 hk5))
        have hr5:=HR4.out.kept hk5 hBl hlow
        refine⟨⟨ts.length-r.length,([]:List (List Nd))++[b],hown5,by show SetI _ _ _ _;rw[HDB.out];exact HG2.out,hr5,HX4.out.kept hk5,?_,?_,?_⟩,?_⟩
        · intro u hu
          rcases List.mem_append.1 hu with hu | hu
          · exact HN.out u hu
          · simp at hu;subst hu;exact HNB.out
        · simp;try omega
        · have:=HF.out;show _≤_;simp at this ⊢; try omega
        · rw[hr5.c1,HR.out.c1];simp[intOf];omega
    · obtain⟨t,r0,hd,ht⟩:=nextS_cons c2
      obtain⟨d1,d2,d3⟩:=drop_cons hd
      have hv0:(0:Int)<(vs.length:Int):=by
       have:vs.length≠0:=fun e=>hne (List.eq_nil_of_length_eq_zero e)
       omega
      have P2:=pass_ok w2 B p c ts k' ⟨#[44]⟩ hr2 (y2.trans c2) d2
      rw[hd,List.tail_cons]at h2
      go_wp2_with (go_at_call 143;refine P2.mono ?_;rintro e w3 ⟨rfl,hr3,hx3⟩;have hX3:BX B w w3:=hX2.trans hx3;have hO3:=hO2.nodal (Nodal.bx hr2 hx3);clear hx3)
      rcases SetI.part (vs:=vs) h2 with⟨e1,g1,rfl⟩ | ⟨b,r,g1,g2⟩
      · have HG:=fun W (hr:RS W B p c ts (k'+1))=>ih 0 (by omega) W (k'+1) _ hr (by rw[d1];exact g1)
        clear g1
        go_wp2_with (go_at_fn 117;refine(HG _ hr3).mono ?_;rintro e w4 ⟨rfl,hr4,hx4⟩)
        exact⟨rfl,rfl,hr4,hX3.trans hx4⟩
      · obtain⟨nb,lb,sb,db⟩:=hr3.next_words (w1:=w) (n:=n) (lvl:=0) (by omega) (by rw[d1];exact g1)
        have HG:=fun W (hr:RS W B p c ts (k'+1))=>ih 0 (by omega) W (k'+1) _ hr (by rw[d1];exact g1)
        have hbl:b.length≠0:=fun e=>nb (List.eq_nil_of_length_eq_zero e)
        have HG2:Hid (SetI n res (vs++[b]) r):=g2
        have HNB:Hid (b≠[]):=nb
        have HDB:Hid (ts.drop (ts.length-r.length)=r):=db
        have HOO:Hid (OW w3 w.heap.size (.slice qv (vs).length cv) vs):=hO3
        have HXQ:Hid (BX B w w3):=hX3
        have HRQ:Hid (RS w3 B p c ts (k'+1)):=hr3
        clear g1 g2 nb db
        go_wp2_with (first
         | (go_at_fn 117;refine(HG _ HRQ.out).mono ?_;rintro e w4 ⟨⟨qb,cb,rfl,hntb,hcb,hcmb⟩,hr4,hx4⟩;simp only at hntb hcb hr4 ⊢; have HNT4:Hid (NT w4 0 qb b):=hntb;have HR4:Hid (RS w4 B p c ts (ts.length-r.length)):=hr4;have HX4:Hid (BX B w w4):=HXQ.out.trans hx4;have HO4:Hid (OW w4 w.heap.size (.slice qv (vs).length cv) vs):=HOO.out.nodal (Nodal.bx HRQ.out hx4);clear hntb hr4 hx4)
         | (at_builtin;(refine append_ow w4 rfl (.tmp 17) (.tmp 20) rfl w.heap.size (.slice qv vs.length cv) vs rfl HO4.out b qb cb HNT4.out hcb hcmb rfl (by simp;try omega) HX4.out.size ?_);intro v5 w5 hown5 hk5))
        have hr5:=HR4.out.kept hk5 hBl hlow
        refine⟨⟨ts.length-r.length,vs++[b],hown5,by show SetI _ _ _ _;rw[HDB.out];exact HG2.out,hr5,HX4.out.kept hk5,?_,?_,?_⟩,?_⟩
        · intro u hu
          rcases List.mem_append.1 hu with hu | hu
          · exact HN.out u hu
          · simp at hu;subst hu;exact HNB.out
        · simp;try omega
        · have:=HF.out;show _≤_;simp at this ⊢; try omega
        · rw[hr5.c1,HR.out.c1];simp[intOf];omega
    · have hv0:(0:Int)<(vs.length:Int):=by
       have:vs.length≠0:=fun e=>hne (List.eq_nil_of_length_eq_zero e)
       omega
      have P2:=pass_bad w2 B p c ts k' ⟨#[44]⟩ hr2 (y2.trans c2)
      have HK:Hid (ts.length-(ts.drop k').length=k'):=by show _=_;rw[List.length_drop];omega
      go_wp2_with (go_at_call 143;refine P2.mono ?_;rintro e w3 ⟨rfl,hr3,hx3⟩)
      refine⟨rfl,rfl,?_,hX2.trans hx3⟩
      simp only[HK.out];exact hr3
end Go.Proofs.YtjkepjbfgeldnaaGreatDoor
