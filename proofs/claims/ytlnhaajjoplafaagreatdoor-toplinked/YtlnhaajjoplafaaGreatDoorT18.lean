import Derived.Test.YtlnhaajjoplafaaGreatDoorShelfU
import Derived.Test.YtlnhaajjoplafaaGreatDoorT17
import Derived.RangeFuncBound
set_option linter.unusedVariables false
set_option maxHeartbeats 12000000
namespace Go.Proofs.YtlnhaajjoplafaaGreatDoor
open Go.RowKit Go.Maps Go.WideMaps Go.Sort Go.Shelf
set_option linter.unusedSimpArgs false
theorem uC_ne {a b:Ui}(h:(cmpB a.t b.t != 0)=true):cmpB a.t b.t=uC a b:=by
 unfold cmpB at h ⊢
 unfold uC uc;rw[if_neg (by simpa using h)]
theorem uC_eq {a b:Ui}(h:(cmpB a.t b.t != 0)=false):cmpB a.i b.i=uC a b:=by
 unfold cmpB at h ⊢
 unfold uC uc;rw[if_pos (by simpa using h)]
theorem nameCmp_any (a b:Ui)(w:World):
 Calls Tryz.prog 171 #[.agg #[.string a.t,.string a.i],.agg #[.string b.t,.string b.i]] w fun e w'=>e= .returned (.int .i64 (uC a b))∧∃q os',w'=grow (w.drewN q) os':=by
 cases hne:(cmpB a.t b.t != 0)
 · have HU:Hid (_=_):=uC_eq hne
   go_enter Tryz.func171,Tryz.ntmps171
   go_wp2_with (go_at_call 194;refine(strCompare_any _ _ _).mono ?_;rintro e w' ⟨rfl,rfl⟩)
   go_ret
   exact⟨by rw[←HU.out];rfl,0,_,by rw[alloc_eq_grow,alloc_eq_grow,grow_grow];rfl⟩
 · have HU:Hid (_=_):=uC_ne hne
   go_enter Tryz.func171,Tryz.ntmps171
   go_wp2_with (go_at_call 194;refine(strCompare_any _ _ _).mono ?_;rintro e w' ⟨rfl,rfl⟩)
   go_ret
   exact⟨by rw[←HU.out];rfl,0,_,by rw[alloc_eq_grow,alloc_eq_grow,grow_grow];rfl⟩
def encU (u:Ui):List Value:=[.string u.t,.string u.i]
theorem uC_swo:SWO (ltOf uC) where
 irrefl x:=by unfold ltOf;rw[uC_is.self];rfl
 trans x y z h1 h2:=by
  unfold ltOf at *
  simp at *
  exact uC_is.lt_le h1 (by omega)
 ntrans x y z h1 h2:=by
  unfold ltOf at *
  simp at *
  have a:=uC_is.neg x y
  have b:=uC_is.neg y z
  have c:=uC_is.neg x z
  have:=uC_is.trans z y x (by omega) (by omega)
  omega
theorem cmpLaysU (blk off size:Nat)(w:World):CmpLays Tryz.prog 171 #[] encU 2 uC blk off size w:=
 fun _ _ _ _ x y=>nameCmp_any x y _
theorem grownBy_sortedU (w:World)(g n:Nat)(d:Array Ui)(os:Array Obj):w.grownBy (sortWorldK encU 2 w g 0 n d os) (some g):=by
 unfold sortWorldK putRowK
 refine⟨rfl,rfl,rfl,by simp,fun k hk hne=>?_⟩
 rw[heap_grow_old _ _ (by simpa using hk)]
 have:g≠k:=fun e=>hne (by rw[e])
 simp[putRow,mapBlock,Sort.ahead,Array.getElem?_modify,this]
theorem holdsU {w:World}{base g cap:Nat}{ss:List Ui}(h:OU w base (.slice (some ⟨g,0,none⟩) ss.length cap) ss)(hne:ss≠[]):HoldsK encU 2 w g 0 ss.toArray:=by
 obtain⟨q,c,e,hUL,_⟩:=h.slice
 cases e
 have hfz:∀j,w.frozen? ⟨g,j,none⟩=false:=by
  rcases h.2 with⟨e,_⟩ | ⟨g',cap',cur,e,_,hgg,_⟩
  · cases e
  · cases e
    intro j
    simp[World.frozen?, hgg]
 intro j hj
 rw[size_flatK]at hj
 refine⟨?_,hfz _⟩
 rw[get_flatK _ _ _ _ hj]
 have hj2:j<ss.length*2:=by simpa using hj
 have hi:j / 2<ss.length:=by omega
 obtain⟨b,off,e,_,k1,k2⟩:=hUL.at hi
 cases e
 have hx:ss.toArray[j / 2]! =ss[j / 2]:=by simp[hi]
 rw[hx]
 have hjm:j=j / 2*2+j % 2:=by omega
 rcases Nat.mod_two_eq_zero_or_one j with h0 | h0
 · rw[h0]
   rw[show(0+j:Nat)=0+j / 2*2 by omega,k1];rfl
 · rw[h0]
   rw[show(0+j:Nat)=0+j / 2*2+1 by omega,k2];rfl
theorem sortedU_lies {w:World}{g n:Nat}{d d':Array Ui}{os:Array Obj}(hH:HoldsK encU 2 w g 0 d)(hg:g<w.heap.size)(hs:d'.size=d.size):UL (sortWorldK encU 2 w g 0 n d' os) (some ⟨g,0,none⟩) d'.toList:=by
 have h1:HoldsK encU 2 (sortWorldK encU 2 w g 0 n d' os) g 0 d':=by
  unfold sortWorldK
  refine holdsK_grow encU 2 (putRowK encU 2 (Sort.ahead w n) g 0 d') os g 0 d' (by unfold putRowK;simpa[Sort.ahead,Go.Sort.size_putRow]using hg) ?_
  exact holdsK_putRowK encU 2 _ _ _ d d' (holdsK_ahead encU 2 _ _ _ _ _ hH) hs
 refine .inr ⟨g,0,rfl,by have:=(grownBy_sortedU w g n d' os).size;omega,fun i x hx=>?_⟩
 have hi:i<d'.size:=by
  have:=(List.getElem?_eq_some_iff.1 hx).1
  simpa using this
 have hxi:d'[i]! =x:=by
  have:=(List.getElem?_eq_some_iff.1 hx).2
  rw[getElem!_pos d' i hi];simpa using this
 obtain⟨c0,_⟩:=h1.cell hi (c:=0) (by omega)
 obtain⟨c1,_⟩:=h1.cell hi (c:=1) (by omega)
 rw[hxi]at c0 c1
 exact⟨c0,c1⟩
theorem perm_all {d d':Array Ui}(h:PermIn 0 d.size d d'):d'.toList.Perm d.toList:=by
 obtain⟨h1,_,h3⟩:=h
 have e1:d.extract 0 d.size=d:=by simp
 have e2:d'.extract 0 d.size=d':=by rw[←h1];simp
 rw[e1,e2]at h3
 exact h3
theorem asc_of {d d':Array Ui}(h:SortedIn (ltOf uC) 0 d.size d')(hs:d'.size=d.size)(hn:d'.toList.Nodup):d'.toList.Pairwise (fun x y=>uC x y<0):=by
 rw[List.pairwise_iff_getElem]
 intro i j hi hj hij
 have hi':i<d'.size:=by simpa using hi
 have hj':j<d'.size:=by simpa using hj
 have hlt:=h i j (Nat.zero_le _) hij (by omega)
 rw[getElem!_pos d' i hi',getElem!_pos d' j hj']at hlt
 have hne:d'[i]≠d'[j]:=by
  intro e
  have:=(List.nodup_iff_pairwise_ne.1 hn)
  exact(List.pairwise_iff_getElem.1 this i j hi hj hij) (by simpa using e)
 unfold ltOf at hlt
 simp only[decide_eq_false_iff_not]at hlt
 have a:=uC_is.neg d'[i] d'[j]
 have b:uC d'[i] d'[j]≠0:=fun q=>hne ((uC_is.zero _ _).1 q)
 show uC d'[i] d'[j]<0
 omega
set_option maxRecDepth 100000 in
theorem sortedU_any (Bm b:Nat)(L:List Ui)(w:World)(hBm:Bm<w.heap.size)(hm:w.cell? ⟨Bm,0,none⟩=some (.map (some b)))(hset:USet w b L)(hL:L.length≤1000):
 Calls Tryz.prog 169 #[.func (.func 203) #[] #[.pointer (some ⟨Bm,0,none⟩)],.func (.func 171) #[] #[]] w fun e w'=>∃q c l,e= .returned (.slice q l.length c)∧UL w' q l∧l.Pairwise (fun x y=>uC x y<0)∧(∀x,x∈l↔x∈L)∧l.length≤c∧c≤maxLen∧Below w.heap.size w w':=by
 have hseq:=ukeys_gives Fence.wide 2 trivial rfl (by omega) Bm b L w hBm hm hset
 have eg:∀args w,(callFunc 203 args).run Tryz.prog w= .ok (.enter 203 args) w:=enters_of Tryz.func203 (by kernel_rfl) rfl
 have ec:∀args w,(callFunc 171 args).run Tryz.prog w= .ok (.enter 171 args) w:=enters_of Tryz.func171 (by kernel_rfl) rfl
 have hcol:=(callsIn_wide (n:=4)).1 (collectU_in Fence.wide 4 trivial trivial rfl (by omega) _ _ trivial eg _ _ hL w hseq.bounded)
 have HCOL:Hid (Calls _ _ _ _ _):=hcol
 clear hcol hseq
 go_enter Tryz.func169,Tryz.ntmps169
 go_wp2_with fail
 refine HCOL.out.mono ?_
 rintro e w1 ⟨v,ss,rfl,⟨⟨hnd,hmem⟩,hssN⟩,hOU,hnil,hb1⟩
 have HND:Hid (ss.Nodup):=hnd
 have HMEM:Hid (∀_,_):=hmem
 have hssL:ss.length≤1000:=by omega
 clear hnd hmem HCOL
 cases ss with
 | nil=>
   obtain rfl:v= .slice none 0 0:=hnil.2 rfl
   clear hnil
   go_wp2_with fail
   refine(AnyF.slices_SortFunc_none { Tryz.sortU with } none 0 _ _).mono ?_
   rintro e w2 ⟨rfl,rfl⟩
   go_wp2_with fail
   go_ret
   exact⟨none,0,[],rfl,.inl rfl,List.Pairwise.nil,HMEM.out,Nat.le_refl _,Nat.zero_le _,hb1⟩
 | cons s0 sr=>
   have HO:Hid (OU _ _ _ _):=hOU
   obtain⟨q,c,rfl,_,hc1,hc2,hq⟩:=hOU.slice
   have hq':∃g,q=some ⟨g,0,none⟩∧w.heap.size≤g∧g<w1.heap.size:=by
    rcases hq with⟨h,_⟩ | h
    · cases h
    · exact h
   obtain⟨g,rfl,hg1,hg2⟩:=hq'
   have hH:=holdsU HO.out (by simp)
   have hsort:=AnyQ.slices_SortFunc Tryz.sortU 2 (fun w=>by kernel_rfl) (fun w=>by kernel_rfl) encU (fun _=>rfl) (fun x v hv=>by simp[encU]at hv;rcases hv with rfl | rfl<;>rfl) uC uC_swo 171 #[] g 0 c (s0::sr).toArray w1 ec (cmpLaysU g 0 _ w1) hH hg2 (by simp at hssL ⊢; omega)
   have HSORT:Hid (Calls Tryz.prog 202 #[.slice (some ⟨g,0,none⟩) (s0::sr).length c,.func (.func 171) #[] #[]] w1 _):=hsort
   have HH:Hid (HoldsK _ _ _ _ _ _):=hH
   generalize hgl:s0::sr=ss at *
   clear hnil hq hH hsort hgl hOU
   go_wp2_with fail
   refine HSORT.out.mono ?_
   rintro e w2 ⟨rfl,d',n,os,hp,hs,rfl⟩
   have hsz:d'.size=ss.toArray.size:=hp.1
   have HUL:Hid (UL _ _ _):=sortedU_lies (n:=n) (os:=os) HH.out hg2 hsz
   have hperm:=perm_all hp
   have HASC:Hid (_):=asc_of hs hsz (hperm.nodup_iff.2 (by simpa using HND.out))
   have HMM:Hid (∀x,x∈d'.toList↔x∈L):=fun x=>by rw[hperm.mem_iff];simpa using HMEM.out x
   have hlen:d'.toList.length=ss.length:=by simpa using hsz
   have HBB:Hid (Below w.heap.size w (sortWorldK encU 2 w1 g 0 n d' os)):=hb1.grown (grownBy_sortedU w1 g n d' os) hb1.size (fun k hk=>by cases hk;exact hg1)
   generalize sortWorldK encU 2 w1 g 0 n d' os=w3 at *
   clear hperm hp hs HSORT HH
   go_wp2_with fail
   go_ret
   exact⟨some ⟨g,0,none⟩,c,d'.toList,by rw[hlen];rfl,HUL.out,HASC.out,HMM.out,by rw[hlen];exact hc1,hc2,HBB.out⟩
end Go.Proofs.YtlnhaajjoplafaaGreatDoor
