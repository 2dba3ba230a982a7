import Derived.Test.YtlnhaajjoplafaaGreatDoorT2
import Derived.Lib.SlicesCompact
import Derived.Test.YtlnhaajjoplafaaGreatDoorT21
import Derived.Test.YtlnhaajjoplafaaGreatDoorT11
import Derived.Test.YtlnhaajjoplafaaGreatDoorShelfVars
import Derived.Sort.OwnSorted
set_option linter.unusedVariables false
set_option maxHeartbeats 12000000
namespace Go.Proofs.YtlnhaajjoplafaaGreatDoor
open Go.Lib Go.Sort
theorem cbt_lt:∀(l m:List UInt8),Lib.compareBytes l m<0→l<m
 | [],[],h=>by simp[Lib.compareBytes]at h
 | [],_::_,_=>List.nil_lt_cons _ _
 | _::_,[],h=>by simp[Lib.compareBytes]at h
 | a::l,b::m,h=>by
   rw[cb_cons]at h
   rw[List.cons_lt_cons_iff]
   split at h
   · exact .inl ‹_›
   · split at h
     · exact absurd h (by decide)
     · rename_i h1 h2
       exact .inr ⟨UInt8.le_antisymm (UInt8.not_lt.1 h2) (UInt8.not_lt.1 h1),cbt_lt l m h⟩
theorem cbt_le {l m:List UInt8}(h:l≤m):Lib.compareBytes l m≤0:=by
 by_cases h1:Lib.compareBytes m l<0
 · exact absurd (cbt_lt m l h1) (List.not_lt.2 h)
 · have:=cb_neg l m
   omega
def mkB (l:List UInt8):ByteArray:=⟨l.toArray⟩
theorem cmpB_mk (a b:List UInt8):cmpB (mkB a) (mkB b)=Lib.compareBytes a b:=rfl
theorem mkB_data (t:ByteArray):mkB t.data.toList=t:=rfl
theorem mkB_inj {a b:List UInt8}(h:mkB a=mkB b):a=b:=by
 have:=congrArg (fun x:ByteArray=>x.data.toList) h
 simpa[mkB]using this
theorem compactUpTo_ok (d:Array (List UInt8))(hs:∀i j,i<j→j<d.size→Lib.compareBytes d[i]! d[j]! ≤0):∀m,m≤d.size→
 (compactUpTo d m).Pairwise (fun x y=>Lib.compareBytes x y<0)∧(∀x,x∈compactUpTo d m↔∃j,j<m∧d[j]! =x)
 | 0,_=>by simp[compactUpTo]
 | m+1,hm=>by
   obtain⟨h1,h2⟩:=compactUpTo_ok d hs m (by omega)
   rw[compactUpTo_succ]
   by_cases hk:keeps d m=true
   · rw[if_pos hk]
     refine⟨List.pairwise_append.2 ⟨h1,by simp,fun x hx y hy=>?_⟩,fun x=>?_⟩
     · obtain rfl:y=d[m]! :=by simpa using hy
       obtain⟨j,hj,rfl⟩:=(h2 x).1 hx
       have hm0:m≠0:=by omega
       have hne:d[m]! ≠d[m-1]! :=by
        unfold keeps at hk
        rcases(decide_eq_true_iff.1 hk)with h | h
        · exact absurd h hm0
        · exact h
       have k1:Lib.compareBytes d[m-1]! d[m]! ≤0:=hs (m-1) m (by omega) (by omega)
       have k2:Lib.compareBytes d[m-1]! d[m]! ≠0:=fun e=>hne ((cb_zero _ _).1 e).symm
       have k3:Lib.compareBytes d[j]! d[m-1]! ≤0:=by
        by_cases hjm:j=m-1
        · subst hjm;rw[(cb_zero _ _).2 rfl];exact Int.le_refl _
        · exact hs j (m-1) (by omega) (by omega)
       exact cmpB_is.le_lt (x:=mkB d[j]!) (y:=mkB d[m-1]!) (z:=mkB d[m]!) k3 (by rw[cmpB_mk];omega)
     · rw[List.mem_append,h2,List.mem_singleton]
       constructor
       · rintro(⟨j,hj,rfl⟩ | rfl)
         · exact⟨j,by omega,rfl⟩
         · exact⟨m,by omega,rfl⟩
       · rintro⟨j,hj,rfl⟩
         by_cases hjm:j=m
         · subst hjm;exact .inr rfl
         · exact .inl ⟨j,by omega,rfl⟩
   · rw[if_neg hk,List.append_nil]
     refine⟨h1,fun x=>?_⟩
     rw[h2]
     have hk2:¬(m=0∨d[m]! ≠d[m-1]!):=fun h=>hk (decide_eq_true h)
     have hm0:m≠0:=fun h=>hk2 (.inl h)
     have he:d[m]! =d[m-1]! :=Decidable.not_not.1 (fun h=>hk2 (.inr h))
     constructor
     · rintro⟨j,hj,rfl⟩;exact⟨j,by omega,rfl⟩
     · rintro⟨j,hj,rfl⟩
       by_cases hjm:j=m
       · subst hjm;exact⟨j-1,by omega,he.symm⟩
       · exact⟨j,by omega,rfl⟩
theorem sorted_compact (ss:List (List UInt8)):((Lib.compact (ss.mergeSort fun x y=>decide (x≤y))).map mkB).Pairwise (fun x y=>cmpB x y<0)∧∀z,z∈(Lib.compact (ss.mergeSort fun x y=>decide (x≤y))).map mkB↔z∈ss.map mkB:=by
 have tr:∀a b c:List UInt8,decide (a≤b)=true→decide (b≤c)=true→decide (a≤c)=true:=fun a b c h1 h2=>by simp only[decide_eq_true_eq]at *; exact List.le_trans h1 h2
 have to:∀a b:List UInt8,(decide (a≤b) || decide (b≤a))=true:=fun a b=>by simp only[Bool.or_eq_true,decide_eq_true_eq];exact List.le_total a b
 have hp:=List.pairwise_mergeSort (le:=fun x y:List UInt8=>decide (x≤y)) tr to ss
 have hperm:=List.mergeSort_perm ss (fun x y:List UInt8=>decide (x≤y))
 generalize ss.mergeSort (fun x y=>decide (x≤y))=ts at *
 have hs:∀i j,i<j→j<ts.toArray.size→Lib.compareBytes ts.toArray[i]! ts.toArray[j]! ≤0:=fun i j hij hj=>by
  have hj':j<ts.length:=by simpa using hj
  have hi':i<ts.length:=by omega
  have:=(List.pairwise_iff_getElem.1 hp) i j hi' hj' hij
  simp only[decide_eq_true_eq]at this
  have e1:ts.toArray[i]! =ts[i]:=by simp[hi']
  have e2:ts.toArray[j]! =ts[j]:=by simp[hj']
  rw[e1,e2]
  exact cbt_le this
 obtain⟨h1,h2⟩:=compactUpTo_ok ts.toArray hs ts.length (by simp)
 refine⟨List.pairwise_map.2 h1,fun z=>?_⟩
 have hm:∀x,x∈Lib.compact ts↔x∈ss:=fun x=>by
  rw[←hperm.mem_iff]
  unfold Lib.compact
  rw[h2]
  constructor
  · rintro⟨j,hj,rfl⟩
    have e1:ts.toArray[j]! =ts[j]:=by simp[hj]
    rw[e1];exact List.getElem_mem _
  · intro hx
    obtain⟨j,hj,rfl⟩:=List.mem_iff_getElem.1 hx
    exact⟨j,hj,by simp[hj]⟩
 simp only[List.mem_map]
 exact⟨fun⟨x,hx,e⟩=>⟨x,(hm x).1 hx,e⟩,fun⟨x,hx,e⟩=>⟨x,(hm x).2 hx,e⟩⟩
theorem names_compact (e:List Nd):(Lib.compact (((vars e).map (fun t:ByteArray=>t.data.toList)).mergeSort fun x y=>decide (x≤y))).map mkB=nms e:=by
 obtain⟨h1,h2⟩:=sorted_compact ((vars e).map (fun t:ByteArray=>t.data.toList))
 refine nms_unique h1 (fun z=>?_)
 rw[h2,List.map_map]
 have:(mkB∘fun t:ByteArray=>t.data.toList)=id:=by funext t;rfl
 rw[this,List.map_id]
theorem compact_short (d:Array (List UInt8)):∀m,(compactUpTo d m).length≤m
 | 0=>by simp[compactUpTo]
 | m+1=>by
   rw[compactUpTo_succ,List.length_append]
   have:=compact_short d m
   split<;>simp<;>omega
end Go.Proofs.YtlnhaajjoplafaaGreatDoor
namespace Go.Proofs.YtlnhaajjoplafaaGreatDoor
open Go.RowKit Go.Sort Go.Shelf
def SRow (w:World)(base:Nat)(v:Value)(ss:List (List UInt8)):Prop:=∃g cap,v= .slice (some ⟨g,0,none⟩) ss.length cap∧base≤g∧g<w.heap.size∧Holds encStr w g 0 ss.toArray∧ss.length≤cap∧cap≤maxLen
theorem OT.srow {w:World}{base:Nat}{v:Value}{ts:List ByteArray}(h:OT w base v ts)(hne:ts≠[]):SRow w base v (ts.map fun t=>t.data.toList):=by
 rcases h.2 with⟨_,hn⟩ | ⟨g,cap,cur,rfl,hb,hgg,h1,h2,h3,h4⟩
 · rw[List.length_map]at hn
   exact absurd (List.eq_nil_of_length_eq_zero hn) hne
 · refine⟨g,cap,by simp,hb,(Array.getElem?_eq_some_iff.1 hgg).1,holds_of_block hgg ?_,by simpa using h1,h2⟩
   rw[List.length_map,List.map_map]
   rw[List.length_map,Nat.mul_one]at h4
   rw[h4]
   exact List.map_congr_left (fun t _=>rfl)
theorem sortT_any (v:Value)(ss:List (List UInt8))(base:Nat)(w:World)(h:SRow w base v ss)(hl:ss.length≤1000):
 Calls Tryz.prog 64 #[v] w fun e w'=>e= .returned (.tuple #[])∧SRow w' base v (ss.mergeSort fun x y=>decide (x≤y))∧Below base w w':=by
 obtain⟨g,cap,rfl,h1,h2,h3,h4,h5⟩:=h
 refine(AnyM.slices_Sort_string Tryz.sortS g 0 cap ss w h3 h2 (by omega)).mono ?_
 rintro e w' ⟨rfl,n,os,rfl⟩
 refine⟨rfl,⟨g,cap,by rw[List.length_mergeSort],h1,by simp[Sort.ahead];omega,?_,by rw[List.length_mergeSort];exact h4,h5⟩,?_⟩
 · refine holds_grow encStr _ os g 0 _ (by simpa[Sort.ahead]using h2) ?_
   exact holds_putRow encStr _ g 0 ss.toArray _ (holds_ahead encStr w n g 0 _ h3) (by simp[List.length_mergeSort])
 · exact(Below.refl base w).grown (grownBy_sorted (w:=w) (g:=g) (n:=n) (os:=os) _) (by omega) (fun k hk=>by cases hk;exact h1)
theorem compactT_any (v:Value)(ss:List (List UInt8))(base:Nat)(w:World)(h:SRow w base v ss):
 Calls Tryz.prog 65 #[v] w fun e w'=>∃q c,e= .returned (.slice q ((Lib.compact ss).map mkB).length c)∧TL w' q ((Lib.compact ss).map mkB)∧((Lib.compact ss).map mkB).length≤c∧c≤maxLen∧Below base w w':=by
 obtain⟨g,cap,rfl,h1,h2,h3,h4,h5⟩:=h
 refine(Any.slices_Compact_string Tryz.lays194 g 0 cap ss w h3 (by unfold maxLen at h5;omega) h4).mono ?_
 rintro e w' ⟨rfl,n,rfl⟩
 have hlen:(Lib.compact ss).length≤ss.length:=compact_short _ _
 have hgb:=grownBy_sorted (w:=w) (g:=g) (n:=n) (os:= #[]) (Lib.compact ss++List.replicate (ss.length-(Lib.compact ss).length) []).toArray
 have hgr:grow (putRow encStr (Sort.ahead w n) g 0 (Lib.compact ss++List.replicate (ss.length-(Lib.compact ss).length) []).toArray) #[]=putRow encStr (Sort.ahead w n) g 0 (Lib.compact ss++List.replicate (ss.length-(Lib.compact ss).length) []).toArray:=by
  have hg:∀W:World,grow W #[]=W:=fun W=>by cases W;simp[grow]
  exact hg _
 rw[hgr]at hgb
 have hH:=holds_putRow encStr (Sort.ahead w n) g 0 ss.toArray (Lib.compact ss++List.replicate (ss.length-(Lib.compact ss).length) []).toArray (holds_ahead encStr w n g 0 _ h3) (by simp;omega)
 refine⟨some ⟨g,0,none⟩,cap,by rw[List.length_map],.inr ⟨g,0,rfl,by simpa[Sort.ahead]using h2,fun i s hs=>?_⟩,by rw[List.length_map];omega,h5,(Below.refl base w).grown hgb (by omega) (fun k hk=>by cases hk;exact h1)⟩
 have hi:i<(Lib.compact ss).length:=by
  have:=(List.getElem?_eq_some_iff.1 hs).1
  simpa using this
 have hc:=(hH i (by simp;omega)).1
 rw[hc]
 have e1:(Lib.compact ss++List.replicate (ss.length-(Lib.compact ss).length) []).toArray[i]! =(Lib.compact ss)[i]:=by
  rw[getElem!_pos _ i (by simp;omega)]
  simp[List.getElem_append_left hi]
 rw[e1]
 have e2:mkB (Lib.compact ss)[i]=s:=by
  rw[List.getElem?_map,List.getElem?_eq_getElem hi]at hs
  simpa using hs
 rw[←e2];rfl
theorem sortT_none (p:Option Addr)(cap:Nat)(w:World):Calls Tryz.prog 64 #[.slice p 0 cap] w fun e w'=>e= .returned (.tuple #[])∧w'=w:=
 AnyM.slices_Sort_string_none Tryz.sortS p cap w
theorem compactT_none (p:Option Addr)(cap:Nat)(w:World):Calls Tryz.prog 65 #[.slice p 0 cap] w fun e w'=>e= .returned (.slice p 0 cap)∧w'=w:=
 Any.slices_Compact_string_empty Tryz.lays194 p cap w
theorem append_textG (w:World)(g:Nat)(hg:w.heap.size=g){ops:Array Oper}{rest:List Oper}{o:Oper}{a:Act}{Q:Exit→Act→World→Prop}(hgd:o.guard=none)(s x:Operand)
 (ho:o.op= .call { callee:=.builtin .append,args:= #[s,x],argTypes:= #[38,38] })
 (base:Nat) (v:Value) (ts:List ByteArray) (hs:a.eval s=v) (hown:OT w base v ts) (t:ByteArray)
 (hx:a.eval x= .slice (some ⟨g,0,none⟩) 1 1) (hlen:ts.length+1≤1099511627776) (hbase:base≤w.heap.size)
 (h:∀v' w',OT w' base v' (ts++[t])→Kept base 9 w w'→wpList Tryz.prog ops Q rest (a.put o.dst v') w'):wpList Tryz.prog ops Q (o::rest) a (w.alloc (.cells #[.string t] 9)):=by
 subst hg
 exact append_text w hgd s x ho base v ts hs hown t hx hlen hbase h
theorem tvars_bad (v:List Nd)(p:Option Addr)(c:Nat)(w:World)(hv:NL w p v)(hl:v.length≤maxLen)(h:xfault v≠0):
 Calls Tryz.prog 40 #[.slice p v.length c] w fun e w'=>e= .returned (.tuple #[.slice none 0 0,eV (xfault v)])∧Below w.heap.size w w':=by
 have hc:=tcheck_any v p c w hv hl
 rw[eV_not h]at hc ⊢
 go_enter Tryz.func40,Tryz.ntmps40
 go_wp2_with fail
 refine hc.mono ?_
 rintro e w1 ⟨rfl,hb⟩
 go_wp2
 go_ret2
 exact⟨rfl,hb⟩
def VarsRet (w':World)(l:List ByteArray)(e:Ending):Prop:=∃q c,e= .returned (.tuple #[.slice q l.length c,.nilIface])∧TL w' q l∧l.length≤c∧c≤maxLen
theorem vars_next_var {v:List Nd}{k:Nat}(h:k<v.length)(h8:v[k].op=8):vars (v.take (k+1))=vars (v.take k)++[v[k].s]:=by
 rw[List.take_succ_eq_append_getElem h,vars_append,vars_cons_var h8];rfl
theorem vars_next_not {v:List Nd}{k:Nat}(h:k<v.length)(h8:v[k].op≠8):vars (v.take (k+1))=vars (v.take k):=by
 rw[List.take_succ_eq_append_getElem h,vars_append,vars_cons_not h8];simp[vars]
set_option maxRecDepth 100000 in
theorem tvars_ok (v:List Nd)(p:Option Addr)(c:Nat)(w:World)(hv:NL w p v)(h:xfault v=0):
 Calls Tryz.prog 40 #[.slice p v.length c] w fun e w'=>VarsRet w' (nms v) e∧Below w.heap.size w w':=by
 have hvl:=(xfault_zero h).1
 have hc:=tcheck_any v p c w hv (by unfold maxLen;omega)
 rw[eV_nil h]at hc
 go_enter Tryz.func40,Tryz.ntmps40
 go_wp2_with fail
 refine hc.mono ?_
 rintro e w1 ⟨rfl,k1⟩
 clear hc
 go_wp2
 go_loopw [5,15] (fun ov i wr=>∃k:Nat,k≤v.length∧i= .int .i64 k∧OT wr w.heap.size ov (vars (v.take k))∧Below w.heap.size w wr) (fun _ i _=>v.length-(intOf i).toNat)
 case atStart=>exact⟨0,Nat.zero_le _,rfl,Row1.nil _ _ _,k1⟩
 case round=>
  obtain⟨k,hk,rfl,hot,hb⟩:=hrel
  by_cases hlt:k<v.length
  · have i1:(k:Int)<(v.length:Int):=by omega
    obtain⟨b,off,rfl,hbw,x0,x1,x2,x3,xw⟩:=(hv.up hb).at hlt
    have HB1:Hid (∀o1,Below wr.heap.size wr (wr.alloc o1)):=fun o1=>(Below.refl _ _).alloc (Nat.le_refl _) o1
    have hbs:=hb.size
    have hvs:(vars (v.take k)).length≤200:=Nat.le_trans (vars_length _) (by simp;omega)
    cases h8:(v[k].op == 8)
    · have HN:Hid (_=_):=vars_next_not hlt (by simpa using h8)
      generalize v[k]=x at *
      have HOT:Hid (OT wr w.heap.size u5 (vars (v.take k))):=hot
      clear hot
      go_wp2
      go_roundw
      case rel=>exact⟨k+1,by omega,by go_num,by rw[HN.out];exact Row1.kept (e:=307) HOT.out (Kept.of_below (HB1.out _) hbs) (by decide),hb.trans ((HB1.out _).mono hbs)⟩
      case measure=>simp[intOf];omega
    · have HN:Hid (_=_):=vars_next_var hlt (by simpa using h8)
      generalize v[k]=x at *
      generalize hL0:vars (v.take k)=L0 at *
      have HOT:Hid (OT wr w.heap.size u5 L0):=hot
      clear hot hL0
      go_wp2_with (at_builtin;refine append_textG _ (wr.heap.size+1) (by simp) rfl (.tmp 22) (.tmp 25) rfl w.heap.size u5 L0 rfl (Row1.kept (e:=307) HOT.out (Kept.of_below (HB1.out _) hbs) (by decide)) x.s rfl (by omega) (by simp;omega) ?_;intro v1 w3 hot1 hk1;have hb3:=hb.trans (((HB1.out _).mono hbs).trans hk1.bel);have HO1:Hid (OT w3 w.heap.size v1 (L0++[x.s])):=hot1;clear hot1)
      go_roundw
      case rel=>exact⟨k+1,by omega,by go_num,by rw[HN.out];exact HO1.out,hb3⟩
      case measure=>simp[intOf];omega
  · have i1:¬(k:Int)<(v.length:Int):=by omega
    rw[List.take_of_length_le (by omega)]at hot
    have HNM:Hid (_=_):=names_compact v
    have hvs:(vars v).length≤200:=Nat.le_trans (vars_length _) (by omega)
    by_cases hne:vars v=[]
    · have HNN:Hid (nms v=[]):=by show _=_;unfold nms;rw[hne];rfl
      obtain⟨q,cc,hq,_,h1,h2⟩:=hot.texts
      rw[hne,List.length_nil]at hq
      subst hq
      clear hot hne
      go_wp2_with fail
      refine(sortT_none q cc _).mono ?_
      rintro e w2 ⟨rfl,rfl⟩
      go_wp2_with fail
      refine(compactT_none q cc _).mono ?_
      rintro e w2 ⟨rfl,rfl⟩
      go_wp2
      go_ret2
      exact⟨by rw[HNN.out];exact⟨q,cc,rfl,.inl rfl,Nat.zero_le _,h2⟩,hb⟩
    · have hsr:=hot.srow hne
      have HS:=sortT_any u5 _ w.heap.size wr hsr (by rw[List.length_map];omega)
      have HC:=fun w'=>compactT_any u5 (((vars v).map fun t:ByteArray=>t.data.toList).mergeSort fun x y=>decide (x≤y)) w.heap.size w'
      rw[HNM.out]at HC
      obtain⟨g,cap,rfl,_⟩:=hsr
      rw[List.length_map]at HS HC
      have HC':Hid (∀_,_):=HC
      clear hot HC
      go_wp2_with fail
      refine HS.mono ?_
      rintro e w2 ⟨rfl,hs2,hb2⟩
      have hc2:=HC'.out _ hs2
      clear hs2 HS
      go_wp2_with fail
      refine hc2.mono ?_
      rintro e w3 ⟨q,cc,rfl,htl,h1,h2,hb3⟩
      go_wp2
      go_ret2
      exact⟨⟨q,cc,rfl,htl,h1,h2⟩,(hb.trans hb2).trans hb3⟩
end Go.Proofs.YtlnhaajjoplafaaGreatDoor
