import Derived.Test.YtlnhaajjoplafaaGreatDoorT29
import Derived.Test.YtlnhaajjoplafaaGreatDoorT9
import Derived.Shelf.SlSortCmp.NoneTotal
import Derived.Test.YtlnhaajjoplafaaGreatDoorT21
import Derived.Test.YtlnhaajjoplafaaGreatDoorT2
set_option linter.unusedVariables false
set_option maxHeartbeats 12000000
namespace Go.Proofs.YtlnhaajjoplafaaGreatDoor
open Go.RowKit Go.Sort Go.Shelf
theorem arr_of {α :Type}[Inhabited α](n:Nat)(P:Nat→ α →Prop)(h:∀i,i<n→∃x,P i x):∃d:Array α,d.size=n∧∀i,i<n→P i d[i]! :=by
 induction n with
 | zero=>exact⟨#[],rfl,fun i hi=>by omega⟩
 | succ n ih=>
   obtain⟨d,hd,hP⟩:=ih (fun i hi=>h i (by omega))
   obtain⟨x,hx⟩:=h n (by omega)
   refine⟨d.push x,by simp[hd],fun i hi=>?_⟩
   by_cases e:i=n
   · subst e
     have:(d.push x)[i]! =x:=by rw[←hd];simp
     rw[this];exact hx
   · have:(d.push x)[i]! =d[i]! :=by
      simp only[Array.getElem!_eq_getD,Array.getD_eq_getD_getElem?, Array.getElem?_push]
      rw[if_neg (by omega)]
     rw[this];exact hP i (by omega)
def LRow (w:World)(g cap:Nat)(ys:List (List Nd)):Prop:=
 ∃d:Array (SlE w g),Holds SlE.u w g 0 d∧g<w.heap.size∧d.size=ys.length∧ys.length≤cap∧cap≤maxLen∧∀i,i<ys.length→ys[i]? =some d[i]!.L
theorem clone_row (vs:List (List Nd))(p:Option Addr)(c:Nat)(w:World)(hv:LL w p vs)(hl:vs.length≤1099511627776):
 Calls Tryz.prog 116 #[.slice p vs.length c] w fun e w'=>
  (∃v,e= .returned v∧((vs=[]∧v= .slice none 0 0)∨∃g cap,v= .slice (some ⟨g,0,none⟩) vs.length cap∧w.heap.size≤g∧LRow w' g cap vs))∧Below w.heap.size w w':=by
 cases p with
 | none=>
   obtain rfl:vs=[]:=by
    rcases hv with h | ⟨b,off,h,_⟩
    · exact h
    · cases h
   refine(cloneLists_nil 0 c w).mono ?_
   rintro e w' ⟨rfl,rfl⟩
   exact⟨⟨_,rfl,.inl ⟨rfl,rfl⟩⟩,Below.refl _ _⟩
 | some a=>
   obtain⟨xs,hxl,hxs⟩:∃xs:List Value,xs.length=vs.length∧∀i u L,xs[i]? =some u→vs[i]? =some L→a.block<w.heap.size∧w.cell? (a.add i)=some u∧∃q c',u= .slice q L.length c'∧NL w q L∧L.length≤c'∧c'≤maxLen:=by
    rcases hv with rfl | ⟨b,off,h1,h2,h3⟩
    · exact⟨[],rfl,fun i u L h=>by simp at h⟩
    · cases h1
      have hadd:∀j,(⟨b,off,none⟩:Addr).add j=⟨b,off+j,none⟩:=fun j=>by unfold Addr.add;split<;>simp_all
      refine⟨(List.range vs.length).map fun i=>(w.cell? ⟨b,off+i,none⟩).getD default,by simp,fun i u L hu hL=>?_⟩
      obtain⟨q,c',h4,h5,h6⟩:=h3 i L hL
      have hi:=(List.getElem?_eq_some_iff.1 hL).1
      simp[hi,h4]at hu
      subst hu
      rw[hadd]
      exact⟨h2,h4,q,c',rfl,h5,h6⟩
   have hget:∀(j:Nat) u,xs[j]? =some u→∃L,vs[j]? =some L:=fun j u hu=>⟨_,List.getElem?_eq_getElem (by have:=(List.getElem?_eq_some_iff.1 hu).1;omega)⟩
   rw[←hxl]
   refine(cloneLists_fn xs a c w (fun j u hu=>?_) (fun u hu=>?_) (by omega)).mono ?_
   · obtain⟨L,hL⟩:=hget j u hu
     exact⟨(hxs j u L hu hL).1,(hxs j u L hu hL).2.1⟩
   · obtain⟨j,hj⟩:=List.getElem?_of_mem hu
     obtain⟨L,hL⟩:=hget j u hj
     obtain⟨_,_,q,c',rfl,_⟩:=hxs j u L hj hL
     rfl
   · rintro e w' ⟨⟨v,rfl,hrow⟩,hb⟩
     refine⟨⟨v,rfl,?_⟩,hb⟩
     rcases hrow.2 with⟨h1,h2⟩ | ⟨g,cap,cur,h1,hg,hgg,hle,hm,hcs,htk⟩
     · left
       exact⟨List.eq_nil_of_length_eq_zero (by omega),h1⟩
     · right
       refine⟨g,cap,h1,hg,?_⟩
       have hgw:g<w'.heap.size:=(Array.getElem?_eq_some_iff.1 hgg).1
       have hcell:∀i u,xs[i]? =some u→w'.cell? ⟨g,i,none⟩=some u:=by
        rcases hrow.slice with⟨q,c',e,_,_,h⟩
        rw[h1]at e
        cases e
        rcases h with rfl | ⟨g',e,_,_,hc⟩
        · intro i u h;simp at h
        · cases e;exact hc
       have hfz:∀i,w'.frozen? ⟨g,i,none⟩=false:=fun i=>by simp[World.frozen?, hgg]
       obtain⟨d,hd,hP⟩:=arr_of (α :=SlE w' g) vs.length (fun i x=>xs[i]? =some x.u∧vs[i]? =some x.L) (fun i hi=>by
        have hu:xs[i]? =some xs[i]:=List.getElem?_eq_getElem (by omega)
        have hL:vs[i]? =some vs[i]:=List.getElem?_eq_getElem hi
        obtain⟨_,_,q,c',e1,e2,e3,e4⟩:=hxs i _ _ hu hL
        refine⟨⟨xs[i],vs[i],q,c',e1,e2.up hb,Nat.le_trans e3 e4,fun b o hq=>?_⟩,hu,hL⟩
        rcases e2 with e | ⟨b',o',e5,e6,_⟩
        · exact .inl e
        · right
          rw[hq]at e5
          cases e5
          omega)
       refine⟨d,fun j hj=>?_,hgw,hd,by omega,hm,fun i hi=>(hP i hi).2⟩
       rw[Nat.zero_add]
       exact⟨hcell j _ (hP j (by omega)).1,hfz j⟩
def Weak (l:List (List Nd)):Prop:=∀(i j:Nat) x y,i<j→l[i]? =some x→l[j]? =some y→lsC x y≤0
theorem sort_row (g cap:Nat)(w:World)(ys:List (List Nd))(h:LRow w g cap ys)(hl:ys.length≤1099511627776):
 Calls Tryz.prog 117 #[.slice (some ⟨g,0,none⟩) ys.length cap,.func (.func 118) #[] #[]] w fun e w'=>
  e= .returned (.tuple #[])∧(∃zs,LRow w' g cap zs∧zs.length=ys.length∧(∀x,x∈zs↔x∈ys)∧Weak zs)∧Below g w w':=by
 obtain⟨d,hH,hg,hd,hc,hcm,hL⟩:=h
 rw[←hd]
 refine(sortLists_fn g 0 cap w d hH hg (by omega)).mono ?_
 rintro e w' ⟨rfl,d',n,os,hp,hs,rfl⟩
 have hsz:d'.size=d.size:=hp.1
 have hwr:Holds SlE.u (sortWorld SlE.u w g 0 n d' os) g 0 d':=holds_sortWorld SlE.u w g 0 n d d' os hg hH hsz
 have hsize:w.heap.size≤(sortWorld SlE.u w g 0 n d' os).heap.size:=by unfold sortWorld;simp[Go.Sort.size_putRow,Sort.ahead]
 refine⟨rfl,?_,?_⟩
 · obtain⟨d2,hd2,hP⟩:=arr_of (α :=SlE (sortWorld SlE.u w g 0 n d' os) g) d'.size (fun i x=>x.u=d'[i]!.u∧x.L=d'[i]!.L) (fun i hi=>by
    obtain⟨q,c,e1,e2,e3,e4⟩:=d'[i]!.ok
    exact⟨⟨_,_,q,c,e1,e2.sorting e4,e3,e4⟩,rfl,rfl⟩)
   refine⟨d'.toList.map SlE.L,⟨d2,fun j hj=>?_,Nat.lt_of_lt_of_le hg hsize,by simp[hd2],by simp;omega,hcm,fun i hi=>?_⟩,by simp;omega,fun x=>?_,fun i j x y hij hx hy=>?_⟩
   · rw[(hP j (by omega)).1]
     exact hwr j (by omega)
   · simp at hi
     rw[(hP i hi).2]
     simp[hi]
   · have hperm:=hp.2.2
     rw[Array.extract_eq_self_of_le (by omega),Array.extract_eq_self_of_le (by omega)]at hperm
     rw[(hperm.map SlE.L).mem_iff]
     have hys:d.toList.map SlE.L=ys:=by
      apply List.ext_getElem?
      intro i
      by_cases hi:i<ys.length
      · rw[hL i hi]
        have:i<d.size:=by omega
        simp[this]
      · rw[List.getElem?_eq_none (by simp;omega),List.getElem?_eq_none (by omega)]
     rw[hys]
   · have hj:j<d'.size:=by have:=(List.getElem?_eq_some_iff.1 hy).1;simpa using this
     have hi:i<d'.size:=by omega
     have:=hs i j (Nat.zero_le _) hij (by omega)
     simp[hi]at hx
     simp[hj]at hy
     simp[hi,hj,ltOf,SlE.cf]at this
     rw[hx,hy]at this
     have:=lsC_is.neg x y
     omega
 · refine⟨by rfl,by rfl,by rfl,hsize,fun k hk=>?_⟩
   unfold sortWorld
   rw[show(grow (putRow SlE.u (Sort.ahead w n) g 0 d') os).heap[k]? =(putRow SlE.u (Sort.ahead w n) g 0 d').heap[k]? from by
    show((putRow SlE.u (Sort.ahead w n) g 0 d').heap++os)[k]? =_
    rw[Array.getElem?_append_left (by simp[Go.Sort.size_putRow,Sort.ahead];omega)]]
   simp only[putRow,mapBlock,Array.getElem?_modify]
   rw[if_neg (by omega)]
   rfl
def RL (w:World)(g:Nat)(l:List (List Nd)):Prop:=∀i L,l[i]? =some L→∃q c,w.cell? ⟨g,i,none⟩=some (.slice q L.length c)∧NL w q L∧(L=[]∨∃b o,q=some ⟨b,o,none⟩∧b≠g)
theorem compact_row (g cap:Nat)(w:World)(zs vs:List (List Nd))(h:LRow w g cap zs)(hl:zs.length≤1099511627776)(hs:Weak zs)(hm:∀x,x∈zs↔x∈vs):
 Calls Tryz.prog 119 #[.slice (some ⟨g,0,none⟩) zs.length cap,.func (.func 100) #[] #[]] w fun e w'=>
  e= .returned (.slice (some ⟨g,0,none⟩) (setL vs).length cap)∧RL w' g (setL vs)∧g<w'.heap.size∧(setL vs).length≤zs.length∧Below g w w':=by
 obtain⟨d,hH,hg,hd,hc,hcm,hL⟩:=h
 rw[←hd]
 refine(compact_fn g cap w d hH hg (by omega) (by omega) hcm).mono ?_
 rintro e w' ⟨⟨kk,dk,rfl,hkk,hcell,hcm2⟩,hb,hel⟩
 have hset:cm (fun i=>d[i]!.L) d.size=setL vs:=by
  refine cm_set _ _ _ (fun i j hij hj=>?_) (fun x=>?_)
  · exact hs i j _ _ hij (hL i (by omega)) (hL j (by omega))
  · rw[←hm x]
    constructor
    · rintro⟨i,hi,rfl⟩
      exact List.mem_of_getElem? (hL i (by omega))
    · intro hx
      obtain⟨i,hi⟩:=List.getElem?_of_mem hx
      have hlt:=(List.getElem?_eq_some_iff.1 hi).1
      rw[hL i hlt]at hi
      exact⟨i,by omega,by simpa using hi⟩
 rw[hset]at hcm2
 have hlen:(setL vs).length=kk:=by rw[←hcm2];simp
 refine⟨by rw[hlen],fun i L hi=>?_,Nat.lt_of_lt_of_le hg hb.size,by omega,hb⟩
 rw[←hcm2]at hi
 have hik:i<kk:=by have:=(List.getElem?_eq_some_iff.1 hi).1;simpa using this
 simp[hik]at hi
 subst hi
 obtain⟨q,c,e1,e2,e3,e4⟩:=dk[i]!.ok
 refine⟨q,c,by rw[←e1];exact hcell i hik,hel.nodes hb.size e2 e4,?_⟩
 rcases e2 with e | ⟨b,o,e5,_,_⟩
 · exact .inl e
 · rcases e4 b o e5 with e | e
   · exact .inl e
   · exact .inr ⟨b,o,e5,e⟩
theorem sort_none (cap:Nat)(w:World):
 Calls Tryz.prog 117 #[.slice none 0 cap,.func (.func 118) #[] #[]] w fun e w'=>e= .returned (.tuple #[])∧w'=w:=
 AnyF.slices_SortFunc_none { Tryz.sortF with } none cap _ w
theorem compact_none (cap:Nat)(w:World):
 Calls Tryz.prog 119 #[.slice none 0 cap,.func (.func 100) #[] #[]] w fun e w'=>e= .returned (.slice none 0 cap)∧w'=w:=by
 go_enter Tryz.func119,Tryz.ntmps119
 go_wp2
 go_ret
 exact⟨rfl,rfl⟩
theorem setOf_bad (vs:List (List Nd))(p:Option Addr)(c:Nat)(w:World)(hv:LL w p vs)(hl:vs.length≤maxLen)(h:ffault vs≠0):
 Calls Tryz.prog 83 #[.slice p vs.length c] w fun e w'=>e= .returned (.tuple #[.slice none 0 0,eV (ffault vs)])∧Below w.heap.size w w':=by
 unfold maxLen at hl
 have HZ:Hid (ffault vs≠0):=h
 clear h
 go_enter Tryz.func83,Tryz.ntmps83
 go_wp2
 go_loopw [13] (fun i wr=>∃k:Nat,k≤vs.length∧i= .int .i64 k∧Hid (ffault (vs.drop k)=ffault vs)∧Below w.heap.size w wr) (fun i _=>vs.length-(intOf i).toNat)
 case atStart=>exact⟨0,Nat.zero_le _,rfl,rfl,Below.refl _ _⟩
 case round=>
  obtain⟨k,hk,rfl,HD,hb⟩:=hrel
  by_cases hlt:k<vs.length
  · have i1:(k:Int)<(vs.length:Int):=by omega
    obtain⟨b,off,q,c',rfl,hbw,hcell,hnl,h1,h2⟩:=(hv.up hb).at hlt
    have HS:Hid (_=_):=ffault_step vs k hlt
    generalize vs[k]=v at *
    have H1:=vcheck_any v q c' _ hnl h1 h2
    by_cases hz:vfault v=0
    · rw[eV_nil hz]at H1
      have HS2:Hid (ffault (vs.drop (k+1))=ffault vs):=by show _=_;rw[←HD.out,HS.out,if_pos hz]
      clear HD HS
      go_wp2_with fail
      refine H1.mono ?_
      rintro e w1 ⟨rfl,hb1⟩
      have hb2:=hb.trans (hb1.mono hb.size)
      clear H1
      go_wp2
      go_roundw
      case rel=>exact⟨k+1,by omega,by go_num,HS2,hb2⟩
      case measure=>simp[intOf];omega
    · have HS2:Hid (vfault v=ffault vs):=by show _=_;rw[←HD.out,HS.out,if_neg hz]
      rw[eV_not hz]at H1
      have HE:Hid (eV (vfault v)= .iface 70 (.int .i64 (vfault v))):=eV_not hz
      generalize vfault v=z at *
      clear HD HS hz
      go_wp2_with fail
      refine H1.mono ?_
      rintro e w1 ⟨rfl,hb1⟩
      have hb2:=hb.trans (hb1.mono hb.size)
      clear H1
      go_wp2
      go_ret2
      exact⟨by rw[←HS2.out,HE.out];rfl,hb2⟩
  · exfalso
    have:=HD.out
    rw[List.drop_of_length_le (by omega)]at this
    exact HZ.out this.symm
theorem RL.up {w w':World}{g:Nat}{l:List (List Nd)}(h:RL w g l)(hg:g<w.heap.size)(k:Below w.heap.size w w'):RL w' g l:=fun i L hL=>by
 obtain⟨q,c,h1,h2,h3⟩:=h i L hL
 exact⟨q,c,(k.cell (p:=⟨g,i,none⟩) hg).trans h1,h2.up k,h3⟩
def SetRetV (w:World)(vs:List (List Nd))(e:Ending):Prop:=
 if (setN (setL vs)).length≤200 then ∃q c,e= .returned (.tuple #[.slice q (setN (setL vs)).length c,.nilIface])∧NL w q (setN (setL vs))∧(setN (setL vs)).length≤c∧c≤maxLen
 else e= .returned (.tuple #[.slice none 0 0,eV 4])
def setK (l:List (List Nd))(k:Nat):List Nd:=⟨5,l.length,⟨#[]⟩,⟨#[]⟩⟩::(l.take k).flatten
theorem setK_all (l:List (List Nd)):setK l l.length=setN l:=by unfold setK setN;rw[List.take_length]
theorem setK_next {l:List (List Nd)}{k:Nat}(h:k<l.length):setK l (k+1)=setK l k++l[k]:=by
 unfold setK
 rw[List.take_succ_eq_append_getElem h,List.flatten_append]
 simp
theorem flat_short:∀(l:List (List Nd)),(∀v∈l,v.length≤200)→l.flatten.length≤200*l.length
 | [],_=>by simp
 | v::l,h=>by
   have h1:=flat_short l (fun x hx=>h x (by simp[hx]))
   have h2:=h v (by simp)
   simp only[List.flatten_cons,List.length_append,List.length_cons]
   omega
set_option maxRecDepth 100000 in
theorem setOf_ok (vs:List (List Nd))(p:Option Addr)(c:Nat)(w:World)(hv:LL w p vs)(hl:vs.length≤4294967296)(h:ffault vs=0)(hne:∀v∈vs,v≠[])(hshort:∀v∈vs,v.length≤200):
 Calls Tryz.prog 83 #[.slice p vs.length c] w fun e w'=>SetRetV w' vs e∧Below w.heap.size w w':=by
 have HZ:Hid (ffault vs=0):=h
 have HSH:Hid (∀v∈vs,v.length≤200):=hshort
 have HNE:Hid (∀v∈vs,v≠[]):=hne
 clear h hshort hne
 go_enter Tryz.func83,Tryz.ntmps83
 go_wp2
 go_loopw [13] (fun i wr=>∃k:Nat,k≤vs.length∧i= .int .i64 k∧Below w.heap.size w wr) (fun i _=>vs.length-(intOf i).toNat)
 case atStart=>exact⟨0,Nat.zero_le _,rfl,Below.refl _ _⟩
 case round=>
  obtain⟨k,hk,rfl,hb⟩:=hrel
  by_cases hlt:k<vs.length
  · have i1:(k:Int)<(vs.length:Int):=by omega
    obtain⟨b,off,q,c',rfl,hbw,hcell,hnl,h1,h2⟩:=(hv.up hb).at hlt
    have hz:vfault vs[k]=0:=(ffault_zero vs).1 HZ.out _ (List.getElem_mem _)
    generalize vs[k]=v at *
    have H1:=vcheck_any v q c' _ hnl h1 h2
    rw[eV_nil hz]at H1
    go_wp2_with fail
    refine H1.mono ?_
    rintro e w1 ⟨rfl,hb1⟩
    have hb2:=hb.trans (hb1.mono hb.size)
    clear H1 hz
    go_wp2
    go_roundw
    case rel=>exact⟨k+1,by omega,by go_num,hb2⟩
    case measure=>simp[intOf];omega
  · obtain rfl:k=vs.length:=by omega
    have i1:¬(vs.length:Int)<(vs.length:Int):=by omega
    have HC:=clone_row vs p c wr (hv.up hb) (by omega)
    go_wp2_with fail
    refine HC.mono ?_
    rintro e w1 ⟨⟨v,rfl,hrow⟩,hb1'⟩
    have hb1:=hb.trans (hb1'.mono hb.size)
    clear HC hb1'
    rcases hrow with⟨rfl,rfl⟩ | ⟨g,cap,rfl,hg,hrow⟩
    · go_wp2_with fail
      refine(sort_none 0 w1).mono ?_
      rintro e w2 ⟨rfl,rfl⟩
      go_wp2_with fail
      refine(compact_none 0 w2).mono ?_
      rintro e w3 ⟨rfl,rfl⟩
      have hstart:ON (w3.alloc (.cells #[.int .i64 5,.int .i64 0,.string ⟨#[]⟩,.string ⟨#[]⟩] 47)) w3.heap.size (.slice (some ⟨w3.heap.size,0,none⟩) 1 1) (setN []):=
       ⟨⟨rfl,.inr ⟨w3.heap.size,1,_,rfl,Nat.le_refl _,heap_alloc_new w3 _,Nat.le_refl _,by unfold maxLen;omega,rfl,rfl⟩⟩,fun x hx=>by simp[setN]at hx;subst hx;exact⟨Nat.zero_le _,Nat.zero_le _,by decide⟩⟩
      obtain⟨g2,cap2,e2,_,_,hgc2,hgm2,hgn2,_⟩:=hstart.slice (by simp[setN])
      cases e2
      have hbz:Below w.heap.size w (w3.alloc (.cells #[.int .i64 5,.int .i64 0,.string ⟨#[]⟩,.string ⟨#[]⟩] 47)):=hb1.alloc hb1.size _
      have hF:=fun W=>fit_ok (setN []) (some ⟨w3.heap.size,0,none⟩) 1 W (by simp[setN])
      have HR:Hid (SetRetV (w3.alloc (.cells #[.int .i64 5,.int .i64 0,.string ⟨#[]⟩,.string ⟨#[]⟩] 47)) [] (.returned (.tuple #[.slice (some ⟨w3.heap.size,0,none⟩) 1 1,.nilIface]))):=by
       show SetRetV _ _ _
       unfold SetRetV
       rw[if_pos (by simp[setN,setL])]
       exact⟨_,1,rfl,hgn2,Nat.le_refl _,hgm2⟩
      have HBZ:Hid _:=hbz
      clear hstart hgn2 hbz
      go_wp2
      generalize w3.alloc (.cells #[.int .i64 5,.int .i64 0,.string ⟨#[]⟩,.string ⟨#[]⟩] 47)=w4 at *
      go_loopw [8,35] (fun sv i wr=>sv= .slice (some ⟨w3.heap.size,0,none⟩) 1 1∧i= .int .i64 0∧wr=w4) (fun _ _ _=>0)
      case atStart=>exact⟨rfl,rfl,rfl⟩
      case round=>
       obtain⟨rfl,rfl,rfl⟩:=hrel
       go_wp2_with fail
       refine(hF _).mono ?_
       rintro e w5 ⟨rfl,rfl⟩
       go_wp2
       go_ret2
       exact⟨HR.out,HBZ.out⟩
    · go_wp2_with fail
      refine(sort_row g cap w1 vs hrow (by omega)).mono ?_
      rintro e w2 ⟨rfl,⟨zs,hrow2,hzl,hzm,hzw⟩,hb2'⟩
      have hb2:=hb1.trans (hb2'.mono (Nat.le_trans hb.size hg))
      have HC:=compact_row g cap w2 zs vs hrow2 (by omega) hzw hzm
      rw[hzl]at HC
      clear hb2' hrow hrow2 hzw
      go_wp2_with fail
      refine HC.mono ?_
      rintro e w3 ⟨rfl,hrl,hg3,hsl,hb3'⟩
      have hb3:=hb2.trans (hb3'.mono (Nat.le_trans hb.size hg))
      clear HC hb3'
      have HRL:Hid (RL w3 g (setL vs)):=hrl
      have HSL:Hid (∀v∈setL vs,v.length≤200):=fun v hm=>HSH.out v ((mem_setL vs v).1 hm)
      generalize hle:setL vs=l at *
      have HLE:Hid (setL vs=l):=hle
      clear hrl hle
      have hstart:ON (w3.alloc (.cells #[.int .i64 5,.int .i64 l.length,.string ⟨#[]⟩,.string ⟨#[]⟩] 47)) w3.heap.size (.slice (some ⟨w3.heap.size,0,none⟩) 1 1) (setK l 0):=
       ⟨⟨rfl,.inr ⟨w3.heap.size,1,_,rfl,Nat.le_refl _,heap_alloc_new w3 _,Nat.le_refl _,by unfold maxLen;omega,rfl,rfl⟩⟩,fun x hx=>by simp[setK]at hx;subst hx;exact⟨Nat.zero_le _,Nat.zero_le _,by simp only;omega⟩⟩
      have HST:Hid _:=hstart
      clear hstart hzm hzl
      go_wp2
      go_loopw [8,35] (fun sv i wr=>∃k:Nat,k≤l.length∧i= .int .i64 k∧ON wr w3.heap.size sv (setK l k)∧Below w3.heap.size w3 wr) (fun _ i _=>l.length-(intOf i).toNat)
      case atStart=>exact⟨0,Nat.zero_le _,rfl,HST.out,(Below.refl _ _).alloc (Nat.le_refl _) _⟩
      case round=>
       obtain⟨k,hk,rfl,hon,hbr⟩:=hrel
       have hfl:(setK l k).length≤200*l.length+1:=by
        have:=flat_short (l.take k) (fun v hv=>HSL.out v (List.mem_of_mem_take hv))
        have h2:(l.take k).length≤l.length:=by simp;omega
        have h3:(setK l k).length=(l.take k).flatten.length+1:=rfl
        omega
       by_cases hlt:k<l.length
       · have i2:(k:Int)<(l.length:Int):=by omega
         obtain⟨q,c',hcell,hnl,_⟩:=(HRL.out.up hg3 hbr) k l[k] (List.getElem?_eq_getElem hlt)
         have hmem:l[k]∈l:=List.getElem_mem _
         have h200:=HSL.out _ hmem
         have hne:=HNE.out l[k] ((mem_setL vs _).1 (by rw[HLE.out];exact hmem))
         have HT:Hid (setK l (k+1)=setK l k++l[k]):=setK_next hlt
         generalize l[k]=part at *
         obtain⟨y,t,rfl⟩:=List.exists_cons_of_ne_nil hne
         obtain⟨pb,po,rfl,hpb,_⟩:=hnl.head
         have HON:Hid (ON wr w3.heap.size u8 (setK l k)):=hon
         have HNL:Hid (NL wr (some ⟨pb,po,none⟩) (y::t)):=hnl
         have HBR:Hid (Below w3.heap.size w3 wr):=hbr
         obtain⟨i0,hi,hz0,hz1,hz2⟩:=info_parts Tryz.infoNode
         clear hnl hmem hne hon hbr
         generalize setK l k=S at *
         go_wp2_with (at_builtin;refine wpList_append_own _ rfl (.tmp 39) (.tmp 40) 30 rfl w3.heap.size 47 i0 _ 4 48 Tryz.underlying30 hi hz0 hz1 hz2 rfl (by decide) u8 S.length (ncells S) rfl HON.out.1 ⟨pb,po,none⟩ (y::t).length c' (ncells (y::t)) rfl ?qc1 ?qc2 ?qc3 ?qc4 ?qc5 ?qc6 ?_)
         case qc1=>exact ncells_length (y::t)
         case qc2=>
          intro j u hu
          have hadd:(⟨pb,po,none⟩:Addr).add j=⟨pb,po+j,none⟩:=by unfold Addr.add;split<;>simp_all
          rw[hadd];exact HNL.out.cells j u hu
         case qc3=>exact ncells_one _
         case qc4=>unfold maxLen;omega
         case qc5=>omega
         case qc6=>exact HBR.out.size
         intro v' w' h1 h2 h3
         have hown:=HON.out.1
         have hb4:Below w3.heap.size w3 w':=HBR.out.grown h2 HBR.out.size (fun k hk=>by
          rcases hown.2 with⟨e,_⟩ | ⟨g',_,_,e,hb',_⟩
          · rw[e]at hk;simp[Value.ownBlock]at hk
          · rw[e]at hk;simp[Value.ownBlock]at hk;omega)
         have hon2:ON w' w3.heap.size v' (setK l (k+1)):=by
          rw[HT.out]
          refine⟨?_,fun x hx=>?_⟩
          · rw[ncells_append,List.length_append]
            exact h1
          · rcases List.mem_append.1 hx with hx | hx
            · exact HON.out.2 x hx
            · exact HNL.out.wfs x hx
         clear h1 h2 h3 hown hi hz0 hz1 hz2
         have HO2:Hid (ON w' w3.heap.size v' (setK l (k+1))):=hon2
         clear hon2
         go_wp2
         go_roundw
         case rel=>exact⟨k+1,by omega,by go_num,HO2.out,hb4⟩
         case measure=>simp[intOf];omega
       · obtain rfl:k=l.length:=by omega
         have i2:¬(l.length:Int)<(l.length:Int):=by omega
         rw[setK_all]at hon hfl
         obtain⟨g2,cap2,rfl,hg2,hgw2,hgc2,hgm2,hgn2,_⟩:=hon.slice (by simp[setN])
         have hbz:Below w.heap.size w wr:=hb3.trans (hbr.mono hb3.size)
         clear hon
         by_cases hfit:(setN l).length≤200
         · have hF:=fit_ok (setN l) (some ⟨g2,0,none⟩) cap2 wr hfit
           have HR:Hid (SetRetV wr vs (.returned (.tuple #[.slice (some ⟨g2,0,none⟩) (setN l).length cap2,.nilIface]))):=by
            show SetRetV _ _ _
            unfold SetRetV
            rw[HLE.out,if_pos hfit]
            exact⟨_,_,rfl,hgn2,hgc2,hgm2⟩
           generalize (setN l).length=len at *
           go_wp2_with fail
           refine hF.mono ?_
           rintro e w5 ⟨rfl,rfl⟩
           go_wp2
           go_ret2
           exact⟨HR.out,hbz⟩
         · have hF:=fit_full (setN l) (some ⟨g2,0,none⟩) cap2 wr (by omega)
           have HR:Hid (SetRetV wr vs (.returned (.tuple #[.slice none 0 0,eV 4]))):=by
            show SetRetV _ _ _
            unfold SetRetV
            rw[HLE.out,if_neg hfit]
           generalize (setN l).length=len at *
           go_wp2_with fail
           refine hF.mono ?_
           rintro e w5 ⟨rfl,rfl⟩
           go_wp2
           go_ret2
           exact⟨HR.out,hbz⟩
end Go.Proofs.YtlnhaajjoplafaaGreatDoor
namespace Go.Proofs.YtlnhaajjoplafaaGreatDoor
open Go.RowKit
theorem vals_ne {vs:List (List Nd)}(hval:∀v∈vs,vfault v=0):∀v∈vs,v≠[]:=fun v hm=>by
 obtain⟨x,r,e,_⟩:=value_head (hval v hm)
 rw[e];simp
theorem vals_short {vs:List (List Nd)}(hval:∀v∈vs,vfault v=0):∀v∈vs,v.length≤200:=fun v hm=>(isVal_past (hval v hm)).1
theorem setOf_fit (vs:List (List Nd))(S:List Nd)(hS:setN (setL vs)=S)(p:Option Addr)(c:Nat)(w:World)(hv:LL w p vs)(hl:vs.length≤4294967296)(hval:∀v∈vs,vfault v=0)(hfit:S.length≤200):
 Calls Tryz.prog 83 #[.slice p vs.length c] w fun e w'=>(∃q c',e= .returned (.tuple #[.slice q S.length c',.nilIface])∧NL w' q S∧S.length≤c'∧c'≤maxLen)∧Below w.heap.size w w':=by
 subst hS
 have H:=setOf_ok vs p c w hv hl ((ffault_zero vs).2 hval) (vals_ne hval) (vals_short hval)
 simp only[SetRetV,if_pos hfit]at H
 exact H
theorem setOf_over (vs:List (List Nd))(p:Option Addr)(c:Nat)(w:World)(hv:LL w p vs)(hl:vs.length≤4294967296)(hval:∀v∈vs,vfault v=0)(hfit:¬(setN (setL vs)).length≤200):
 Calls Tryz.prog 83 #[.slice p vs.length c] w fun e w'=>e= .returned (.tuple #[.slice none 0 0,eV 4])∧Below w.heap.size w w':=by
 have H:=setOf_ok vs p c w hv hl ((ffault_zero vs).2 hval) (vals_ne hval) (vals_short hval)
 simp only[SetRetV,if_neg hfit]at H
 exact H
end Go.Proofs.YtlnhaajjoplafaaGreatDoor
