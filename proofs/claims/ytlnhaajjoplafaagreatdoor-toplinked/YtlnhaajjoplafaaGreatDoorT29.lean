import Derived.Test.YtlnhaajjoplafaaGreatDoorT21
import Derived.Test.YtlnhaajjoplafaaGreatDoorT2
set_option linter.unusedVariables false
set_option maxHeartbeats 12000000
namespace Go.Proofs.YtlnhaajjoplafaaGreatDoor
open Go.RowKit Go.Sort Go.Shelf
def cm (ys:Nat→List Nd):Nat→List (List Nd)
 | 0=>[]
 | m+1=>if m=0∨lsC (ys m) (ys (m-1))≠0 then cm ys m++[ys m]else cm ys m
theorem cm_all (ys:Nat→List Nd):∀m,(∀j,j<m→j=0∨lsC (ys j) (ys (j-1))≠0)→cm ys m=(List.range m).map ys
 | 0,_=>rfl
 | m+1,h=>by
   rw[cm,if_pos (h m (by omega)),cm_all ys m (fun j hj=>h j (by omega)),List.range_succ,List.map_append];rfl
structure CInv {w:World}{g:Nat}(d dk:Array (SlE w g))(m kk:Nat):Prop where
 size:dk.size=d.size
 lt:kk<m
 le:m≤d.size
 low:((List.range kk).map fun i=>dk[i]!.L)=cm (fun i=>d[i]!.L) m
 high:∀i,m-1≤i→dk[i]! =d[i]!
theorem CInv.skip {w:World}{g:Nat}{d dk:Array (SlE w g)}{m kk:Nat}(h:CInv d dk m kk)(hm:m<d.size)(h0:0<m)(he:lsC d[m]!.L d[m-1]!.L=0):CInv d dk (m+1) kk:=
 ⟨h.size,by have:=h.lt;omega,by omega,by rw[h.low,cm,if_neg (by omega)],fun i hi=>h.high i (by omega)⟩
theorem CInv.keep {w:World}{g:Nat}{d dk:Array (SlE w g)}{m kk:Nat}(h:CInv d dk m kk)(hm:m<d.size)(he:lsC d[m]!.L d[m-1]!.L≠0):CInv d (dk.setIfInBounds kk d[m]!) (m+1) (kk+1):=by
 have hs:=h.size
 have hl:=h.lt
 have hget:∀i,i≠kk→(dk.setIfInBounds kk d[m]!)[i]! =dk[i]! :=fun i hi=>by
  simp only[Array.getElem!_eq_getD,Array.getD_eq_getD_getElem?, Array.getElem?_setIfInBounds]
  rw[if_neg (by omega)]
 have hself:(dk.setIfInBounds kk d[m]!)[kk]! =d[m]! :=getElem!_set_same dk kk d[m]! (by omega)
 refine⟨by simp[hs],by omega,by omega,?_,fun i hi=>?_⟩
 · rw[List.range_succ,List.map_append,cm,if_pos (.inr he),←h.low]
   congr 1
   · apply List.map_congr_left
     intro i hi
     simp at hi
     rw[hget i (by omega)]
   · simp[hself]
 · rw[hget i (by omega)];exact h.high i (by omega)
theorem below_sort {w:World}{g q:Nat}{dk:Array (SlE w g)}:Below g w (sortWorld SlE.u w g 0 q dk #[]):=by
 refine⟨rfl,rfl,rfl,by simp[sortWorld,Go.Sort.size_putRow,Sort.ahead],fun k hk=>?_⟩
 unfold sortWorld
 rw[grow_empty]
 simp only[putRow,mapBlock,Array.getElem?_modify]
 rw[if_neg (by omega)]
 rfl
theorem below_cells (g:Nat):∀(vs:List Value) (o:Nat) (w:World),Below g w (w.setCells g o vs)
 | [],_,w=>Below.refl _ _
 | v::r,o,w=>((Below.refl g w).setCell (p:=⟨g,o,none⟩) (Nat.le_refl _) v).trans (below_cells g r (o+1) _)
theorem sw_drawn {w:World}{g q:Nat}{dk:Array (SlE w g)}(n:Nat):(sortWorld SlE.u w g 0 q dk #[]).drewN n=sortWorld SlE.u w g 0 (q+n) dk #[]:=by
 have:=sortWorld_grown_c SlE.u w g 0 q n dk #[] #[]
 simpa using this
theorem sw_set {w:World}{g q:Nat}{dk:Array (SlE w g)}(i n:Nat)(x:SlE w g)(hi:i<dk.size):((sortWorld SlE.u w g 0 q dk #[]).setCell ⟨g,i,none⟩ x.u).drewN n=sortWorld SlE.u w g 0 (q+n) (dk.setIfInBounds i x) #[]:=by
 rw[←sw_drawn]
 congr 1
 unfold sortWorld
 rw[grow_empty,grow_empty]
 have:=putRow_set SlE.u (Sort.ahead w q) g 0 dk i x hi
 rw[Nat.zero_add]at this
 exact this
def Else (g:Nat)(w w':World):Prop:=∀b,b≠g→w'.heap[b]? =w.heap[b]?
theorem else_refl (g:Nat)(w:World):Else g w w:=fun _ _=>rfl
theorem else_sort {w:World}{g q:Nat}{dk:Array (SlE w g)}:Else g w (sortWorld SlE.u w g 0 q dk #[]):=fun k hk=>by
 unfold sortWorld
 rw[grow_empty]
 simp only[putRow,mapBlock,Array.getElem?_modify]
 rw[if_neg (by omega)]
 rfl
theorem else_cells (g:Nat):∀(vs:List Value) (o:Nat) (w:World),Else g w (w.setCells g o vs)
 | [],_,w=>else_refl g w
 | v::r,o,w=>fun b hb=>(else_cells g r (o+1) _ b hb).trans (Below.heap_setCell _ _ _ _ hb)
theorem Else.nodes {g:Nat}{w w':World}(h:Else g w w')(hs:w.heap.size≤w'.heap.size){q:Option Addr}{L:List Nd}(hn:NL w q L)(hb:∀b o,q=some ⟨b,o,none⟩→L=[]∨b≠g):NL w' q L:=by
 rcases hn with e | ⟨b,o,h1,h2,h3⟩
 · exact .inl e
 · rcases hb b o h1 with e | hne
   · exact .inl e
   · refine .inr ⟨b,o,h1,Nat.lt_of_lt_of_le h2 hs,fun i x hx=>?_⟩
     have hc:∀a,w'.cell? ⟨b,a,none⟩=w.cell? ⟨b,a,none⟩:=fun a=>World.cell?_of_block (w:=w) (h b hne)
     simp only[hc]
     exact h3 i x hx
def CRet {w:World}{g:Nat}(d:Array (SlE w g))(cap:Nat)(w':World)(e:Ending):Prop:=
 ∃(kk:Nat) (dk:Array (SlE w g)),e= .returned (.slice (some ⟨g,0,none⟩) kk cap)∧kk≤d.size∧(∀i,i<kk→w'.cell? ⟨g,i,none⟩=some dk[i]!.u)∧((List.range kk).map fun i=>dk[i]!.L)=cm (fun i=>d[i]!.L) d.size
theorem equalE {w:World}{g q:Nat}{dk:Array (SlE w g)}(x y:SlE w g)(n:Nat):
 Calls Tryz.prog 100 #[x.u,y.u] ((sortWorld SlE.u w g 0 q dk #[]).drewN n) fun e w''=>e= .returned (.bool (sameNd x.L y.L))∧∃m,w''=(sortWorld SlE.u w g 0 q dk #[]).drewN m:=by
 obtain⟨qx,cx,ex,hx,lx,nx⟩:=x.ok
 obtain⟨qy,cy,ey,hy,ly,ny⟩:=y.ok
 rw[ex,ey]
 have hb:Below (sortWorld SlE.u w g 0 q dk #[]).heap.size (sortWorld SlE.u w g 0 q dk #[]) ((sortWorld SlE.u w g 0 q dk #[]).drewN n):=⟨rfl,rfl,rfl,Nat.le_refl _,fun _ _=>rfl⟩
 exact(equalNodes_any x.L y.L qx qy cx cy _ ((hx.sorting nx).up hb) ((hy.sorting ny).up hb) lx ly).mono fun e w'' ⟨h1,m,h2⟩=>⟨h1,n+m,by rw[h2,World.drewN_drewN]⟩
set_option maxRecDepth 100000 in
theorem compact_fn (g cap:Nat)(w:World)(d:Array (SlE w g))(hH:Holds SlE.u w g 0 d)(hg:g<w.heap.size)(hsz:d.size≤1099511627776)(hcap:d.size≤cap)(hcm:cap≤maxLen):
 Calls Tryz.prog 119 #[.slice (some ⟨g,0,none⟩) d.size cap,.func (.func 100) #[] #[]] w fun e w'=>CRet d cap w' e∧Below g w w'∧Else g w w':=by
 unfold maxLen at hcm
 have HH:Hid (Holds SlE.u w g 0 d):=hH
 have hst:w=sortWorld SlE.u w g 0 0 d #[]:=(sortWorld_start SlE.u w g 0 d hH).symm
 have HST:Hid (_=_):=hst
 clear hst hH
 by_cases h2:d.size<2
 · have i1:(d.size:Int)<2:=by omega
   go_enter Tryz.func119,Tryz.ntmps119
   go_wp2
   go_ret
   refine⟨⟨d.size,d,rfl,Nat.le_refl _,fun i hi=>by have:=(HH.out i hi).1;rw[Nat.zero_add]at this;exact this,?_⟩,Below.refl _ _,else_refl _ _⟩
   rw[cm_all _ _ (fun j hj=>.inl (by omega))]
 · have i1:¬(d.size:Int)<2:=by omega
   go_enter Tryz.func119,Tryz.ntmps119
   go_wp2
   go_loopw [5] (fun s5 wr=>∃k q:Nat,1≤k∧k≤d.size∧s5= .int .i64 k∧wr=sortWorld SlE.u w g 0 q d #[]∧Hid (∀j,j<k→j=0∨lsC d[j]!.L d[j-1]!.L≠0)) (fun i _=>d.size-(intOf i).toNat)
   case atStart=>exact⟨1,0,Nat.le_refl _,by omega,rfl,HST.out,fun j hj=>.inl (by omega)⟩
   case round=>
    obtain⟨k,q,hk1,hk,rfl,hwr,HA⟩:=hrel
    have hHr:Holds SlE.u wr g 0 d:=by rw[hwr];exact holds_sortWorld SlE.u w g 0 q d d #[] hg HH.out rfl
    have HW:Hid (_=_):=hwr
    by_cases hlt:k<d.size
    · have j1:(k:Int)<(d.size:Int):=by omega
      obtain⟨c1,f1⟩:=hHr k hlt
      obtain⟨c0,f0⟩:=hHr (k-1) (by omega)
      rw[Nat.zero_add]at c1 c0
      have hcl:=fun n=>equalE (q:=q) (dk:=d) d[k]! d[k-1]! n
      rw[←hwr]at hcl
      clear hwr hHr
      have HAk:Hid (∀b,sameNd d[k]!.L d[k-1]!.L=b→(b=true↔lsC d[k]!.L d[k-1]!.L=0)):=fun b hb=>by rw[←hb];unfold sameNd;simp
      cases hb:sameNd d[k]!.L d[k-1]!.L<;>rw[hb]at hcl
      · have hne:lsC d[k]!.L d[k-1]!.L≠0:=fun h=>by have:=(HAk.out _ hb).2 h;cases this
        have HNE:Hid (lsC d[k]!.L d[k-1]!.L≠0):=hne
        clear hne hb
        generalize d[k]!.u=ux at c1 hcl
        generalize d[k-1]!.u=uy at c0 hcl
        go_wp2_with fail
        go_quiet (exact hcl _)
        go_wp2
        go_roundw
        case rel=>
         refine⟨k+1,q+nq,by omega,by omega,by go_num,by rw[HW.out,sw_drawn],fun j hj=>?_⟩
         by_cases e:j=k
         · subst e;exact .inr HNE.out
         · exact HA.out j (by omega)
        case measure=>simp[intOf];omega
      · have heq:lsC d[k]!.L d[k-1]!.L=0:=(HAk.out _ hb).1 rfl
        have hI0:CInv d d (k+1) k:=by
         refine⟨rfl,by omega,by omega,?_,fun _ _=>rfl⟩
         rw[cm,if_neg (by omega),cm_all _ _ HA.out]
        have HI0:Hid (CInv d d (k+1) k):=hI0
        clear heq hb hI0
        generalize d[k]!.u=ux at c1 hcl
        generalize d[k-1]!.u=uy at c0 hcl
        have hck:¬cap=k:=by omega
        have j2:(k:Int)≤(d.size:Int):=by omega
        go_wp2_with fail
        go_quiet (exact hcl _)
        have hwn:wr.drewN nq=sortWorld SlE.u w g 0 (q+nq) d #[]:=by rw[HW.out,sw_drawn]
        have HWN:Hid (_=_):=hwn
        clear hwn hcl c0 c1 f0 f1
        go_wp2
        generalize hgo:wr.drewN nq=wo at *
        clear hgo
        go_loopw [5,7] (fun s5 s7 wq=>∃(kk k2 q2:Nat) (dk:Array (SlE w g)),s5= .int .i64 kk∧s7= .int .i64 k2∧1≤k2∧k+k2≤d.size∧wq=sortWorld SlE.u w g 0 q2 dk #[]∧Hid (CInv d dk (k+k2) kk)) (fun _ i _=>d.size-(intOf i).toNat)
        case atStart=>exact⟨k,1,q+nq,d,rfl,rfl,Nat.le_refl _,by omega,HWN.out,HI0⟩
        case round=>
         obtain⟨kk,k2,q2,dk,rfl,rfl,hk21,hk2,hwr2,HI⟩:=hrel
         have hHk:Holds SlE.u wr g 0 dk:=by rw[hwr2];exact holds_sortWorld SlE.u w g 0 q2 d dk #[] hg HH.out HI.out.size
         have hds:=HI.out.size
         have hkk:=HI.out.lt
         have hkd:kk<d.size:=by omega
         have HW2:Hid (_=_):=hwr2
         by_cases hlt2:k+k2<d.size
         · obtain⟨cm1,_⟩:=hHk (k+k2) (by omega)
           obtain⟨cp1,_⟩:=hHk (k+(k2-1)) (by omega)
           obtain⟨ck1,fk1⟩:=hHk kk (by omega)
           rw[HI.out.high (k+k2) (by omega),Nat.zero_add]at cm1
           rw[HI.out.high (k+(k2-1)) (by omega),Nat.zero_add]at cp1
           rw[Nat.zero_add]at ck1 fk1
           have hcl:=fun n=>equalE (q:=q2) (dk:=dk) d[k+k2]! d[k+(k2-1)]! n
           rw[←hwr2]at hcl
           have hidx:k+k2-1=k+(k2-1):=by omega
           have HKE:Hid (sameNd d[k+k2]!.L d[k+(k2-1)]!.L=true→CInv d dk (k+(k2+1)) kk):=fun h=>by
            have:=HI.out.skip hlt2 (by omega) (by rw[hidx];unfold sameNd at h;simpa using h)
            rw[show k+(k2+1)=k+k2+1 by omega];exact this
           have HKN:Hid (sameNd d[k+k2]!.L d[k+(k2-1)]!.L=false→CInv d (dk.setIfInBounds kk d[k+k2]!) (k+(k2+1)) (kk+1)):=fun h=>by
            have:=HI.out.keep hlt2 (by rw[hidx];unfold sameNd at h;simpa using h)
            rw[show k+(k2+1)=k+k2+1 by omega];exact this
           have HSET:Hid (∀n,(wr.setCell ⟨g,kk,none⟩ d[k+k2]!.u).drewN n=sortWorld SlE.u w g 0 (q2+n) (dk.setIfInBounds kk d[k+k2]!) #[]):=fun n=>by rw[hwr2];exact sw_set kk n _ (by omega)
           clear hHk hwr2 hidx
           have m1:(k2:Int)<((d.size-k:Nat):Int):=by omega
           have m2:(kk:Int)<(d.size:Int):=by omega
           cases hb:sameNd d[k+k2]!.L d[k+(k2-1)]!.L<;>rw[hb]at hcl
           · have HI2:=HKN.out hb
             have HI3:Hid (CInv d (dk.setIfInBounds kk d[k+k2]!) (k+(k2+1)) (kk+1)):=HI2
             obtain⟨qz,cz,hz,_⟩:=d[k+k2]!.ok
             generalize d[k+(k2-1)]!.u=uy2 at cp1 hcl
             generalize hzx:d[k+k2]! =zx at *
             generalize hzu:zx.u=uz at *
             subst hz
             generalize hold:dk[kk]!.u=old at ck1
             clear hb HI2 HKE HKN hold
             go_wp2_with fail
             go_quiet (exact hcl _)
             clear hcl
             go_wp2
             go_roundw
             case rel=>
              exact⟨kk+1,k2+1,q2+nq,_,by go_num,by go_num,by omega,by omega,HSET.out nq,HI3⟩
             case measure=>simp[intOf];omega
           · have HI3:Hid (CInv d dk (k+(k2+1)) kk):=HKE.out hb
             generalize d[k+(k2-1)]!.u=uy2 at cp1 hcl
             generalize d[k+k2]!.u=uz at cm1 hcl
             generalize dk[kk]!.u=old at ck1
             clear hb HKE HKN HSET
             go_wp2_with fail
             go_quiet (exact hcl _)
             clear hcl
             go_wp2
             go_roundw
             case rel=>exact⟨kk,k2+1,q2+nq,dk,rfl,by go_num,by omega,by omega,by rw[HW2.out,sw_drawn],HI3⟩
             case measure=>simp[intOf];omega
         · have hend:k+k2=d.size:=by omega
           have hclr:∀ty,(Builtin.clear_ #[57] ty #[.slice (some ⟨g,kk,none⟩) (d.size-kk) (cap-kk)]).run Tryz.prog wr= .ok (.tuple #[]) (wr.setCells g kk (List.replicate (d.size-kk) (.slice none 0 0))):=
            fun ty=>Lib.run_clear_slice wr _ _ ty _ Tryz.underlying57 (fun _=>by kernel_rfl) rfl rfl g kk _ _ (by omega) (fun j hj=>by have:=(hHk (kk+j) (by omega)).1;rw[Nat.zero_add]at this;rw[this];rfl) (fun j hj=>by have:=(hHk (kk+j) (by omega)).2;rw[Nat.zero_add]at this;exact this)
           have m1:¬(k2:Int)<((d.size-k:Nat):Int):=by omega
           have m3:(kk:Int)≤(d.size:Int):=by omega
           have m4:¬cap=kk:=by omega
           have m5:(kk:Int)≤(cap:Int):=by omega
           have HHK:Hid (Holds SlE.u wr g 0 dk):=hHk
           clear hHk hwr2
           go_wp2
           go_ret
           refine⟨⟨kk,dk,rfl,by omega,fun i hi=>?_,?_⟩,?_,?_⟩
           · rw[World.cell?_setCells_out g _ _ _ _ (fun _ _=>.inl hi)]
             have:=(HHK.out i (by omega)).1
             rw[Nat.zero_add]at this
             exact this
           · have:=HI.out.low
             rw[hend]at this
             exact this
           · rw[HW2.out]
             exact below_sort.trans (below_cells g _ _ _)
           · rw[HW2.out]
             exact fun b hb=>(else_cells g _ _ _ b hb).trans (else_sort b hb)
    · have j1:¬(k:Int)<(d.size:Int):=by omega
      obtain rfl:k=d.size:=by omega
      clear hwr
      go_wp2
      go_ret
      refine⟨⟨d.size,d,rfl,Nat.le_refl _,fun i hi=>by have:=(hHr i hi).1;rw[Nat.zero_add]at this;exact this,?_⟩,by rw[HW.out];exact below_sort,by rw[HW.out];exact else_sort⟩
      rw[cm_all _ _ HA.out]
end Go.Proofs.YtlnhaajjoplafaaGreatDoor
namespace Go.Proofs.YtlnhaajjoplafaaGreatDoor
theorem cm_mem (ys:Nat→List Nd):∀n x,x∈cm ys n↔∃i,i<n∧ys i=x
 | 0,x=>by simp[cm]
 | n+1,x=>by
   have ih:=cm_mem ys n x
   rw[cm]
   split
   · rw[List.mem_append,ih]
     constructor
     · rintro(⟨i,hi,e⟩ | h)
       · exact⟨i,by omega,e⟩
       · simp at h;exact⟨n,by omega,h.symm⟩
     · rintro⟨i,hi,e⟩
       by_cases h:i=n
       · subst h;exact .inr (by simp[e])
       · exact .inl ⟨i,by omega,e⟩
   · rename_i h
     have h0:n≠0:=fun e=>h (.inl e)
     have he:ys n=ys (n-1):=(lsC_is.zero _ _).1 (by
      by_cases hz:lsC (ys n) (ys (n-1))=0
      · exact hz
      · exact absurd (.inr hz) h)
     rw[ih]
     constructor
     · rintro⟨i,hi,e⟩;exact⟨i,by omega,e⟩
     · rintro⟨i,hi,e⟩
       by_cases h:i=n
       · subst h;exact⟨i-1,by omega,by rw[←he];exact e⟩
       · exact⟨i,by omega,e⟩
theorem cm_strict (ys:Nat→List Nd):∀n,(∀i j,i<j→j<n→lsC (ys i) (ys j)≤0)→Strict (cm ys n)
 | 0,_=>List.Pairwise.nil
 | n+1,h=>by
   have ih:=cm_strict ys n (fun i j hi hj=>h i j hi (by omega))
   rw[cm]
   split
   · rename_i hk
     refine List.pairwise_append.2 ⟨ih,by simp,fun a ha b hb=>?_⟩
     simp at hb
     subst hb
     obtain⟨i,hi,rfl⟩:=(cm_mem ys n a).1 ha
     have h1:=h i n hi (by omega)
     rcases hk with e | hne
     · omega
     · have h2:=h (n-1) n (by omega) (by omega)
       have h3:lsC (ys (n-1)) (ys n)<0:=by
        have:=lsC_is.neg (ys n) (ys (n-1))
        omega
       by_cases e:i=n-1
       · rw[e];exact h3
       · exact lsC_is.le_lt (h i (n-1) (by omega) (by omega)) h3
   · exact ih
theorem cm_set (ys:Nat→List Nd)(n:Nat)(vs:List (List Nd))(hs:∀i j,i<j→j<n→lsC (ys i) (ys j)≤0)(hm:∀x,(∃i,i<n∧ys i=x)↔x∈vs):cm ys n=setL vs:=
 setL_is (cm_strict ys n hs) (fun x=>(cm_mem ys n x).trans (hm x))
end Go.Proofs.YtlnhaajjoplafaaGreatDoor
