import Derived.Test.YtipcngglmebiiaaGreatDoorA37
import Derived.Test.YtipcngglmebiiaaGreatDoorA26
import Derived.Test.YtipcngglmebiiaaGreatDoorA12
import Derived.Test.YtipcngglmebiiaaGreatDoorA24
import Derived.Deep.RegionHeld
set_option linter.unusedVariables false
set_option maxHeartbeats 12000000
namespace Go.Proofs.YtipcngglmebiiaaGreatDoor
open Go.RowKit Go.Deep
set_option linter.unusedSimpArgs false
set_option maxRecDepth 100000
theorem aualone_walk (es:List En)(ps:Option Addr)(cs:Nat)(L:List Po)(pl:Option Addr)(cl:Nat)(q:Rq)(pq:Option Addr)(cq:Nat)(w:World)(ha:EvArg w es ps q pq cq)(hP:PArg w L L.length pl cl):
 Calls Tryz.prog 6 #[.slice ps es.length cs,.slice pl L.length cl,reqV q pq cq] w fun e w'=>e= .returned (.bool true)∧Below w.heap.size w w':=by
 obtain⟨V,hV⟩:∃V,V=w.alloc (.cells #[.string q.who.t,.string q.who.i,.string q.act.t,.string q.act.i,.string q.what.t,.string q.what.i,.slice pq q.cx.length cq] 28):=⟨_,rfl⟩
 have hbV:Below w.heap.size w V:=by rw[hV];exact kqx
 have HA:Hid (∀W,Below V.heap.size V W→QB W w.heap.size q pq cq):=fun W hW=>by
  have h1:QB V w.heap.size q pq cq:=by rw[hV];exact QB.new w q pq cq
  exact h1.up hW
 have HEA:Hid (∀W,Below V.heap.size V W→EvArg W es ps q pq cq):=fun W hW=>ha.up (kqt hbV hW)
 have HPA:Hid (∀W,Below V.heap.size V W→PArg W L L.length pl cl):=fun W hW=>hP.up (kqt hbV hW)
 obtain⟨n,hn⟩:∃n,n=L.length:=⟨_,rfl⟩
 have hPM:=permitted_any V (HEA.out V (Below.refl _ _)).er
 have HK:=fun L' n' pl cl W ha hp=>ask_pols es ps cs L' n' pl cl q pq cq W ha hp
 have H64:Hid (∀x∈L,P64 x):=hP.num
 have hcm:=hP.cm
 unfold maxLen at hcm
 have hle:=hP.le
 rw[←hn]at HPA hle ⊢
 have HN:Hid (n=L.length):=hn
 clear hn ha hP
 unfold reqV at *
 go_enter Tryz.func6,Tryz.ntmps6
 go_wp2_with fail
 rw[←hV]
 clear hV
 refine hPM.mono ?_
 rintro _ w2 ⟨rfl,hb2⟩
 clear hPM
 obtain⟨y0,y1,y2,y3,y4,y5,y6⟩:=(HA.out w2 hb2).cells
 have lq:w.heap.size<w2.heap.size:=(HA.out w2 hb2).lt
 go_wp2_with fail
 refine(HK L n pl cl _ (HEA.out _ hb2) (HPA.out _ hb2)).mono ?_
 rintro _ w3 ⟨hr3,hb3'⟩
 have hb3:Below V.heap.size V w3:=kqt hb2 hb3'
 obtain⟨a1,p11,n11,c11,p12,n12,c12,rfl,han1⟩:=hr3.any
 clear hr3 y0 y1 y2 y3 y4 y5 y6 lq hb3'
 obtain⟨G,hG⟩:∃W,W=w3.alloc (.cells #[.bool a1,.slice p11 n11 c11,.slice p12 n12 c12] 33):=⟨_,rfl⟩
 have hb3G:Below w3.heap.size w3 G:=by rw[hG];exact kqx
 have hbVG:Below V.heap.size V G:=kqt hb3 hb3G
 have HB1:Hid (∀W,Below G.heap.size G W→Blk W w3.heap.size #[.bool a1,.slice p11 n11 c11,.slice p12 n12 c12] 33):=fun W hW=>by
  have:Blk G w3.heap.size #[.bool a1,.slice p11 n11 c11,.slice p12 n12 c12] 33:=by rw[hG];exact Blk.new _ _ _ rfl
  exact this.up hW
 by_cases h1:auE es q L=0
 · rw[eV_nil h1]
   obtain⟨hal,hn1,hn2,ht1,ht2⟩:=han1 h1
   obtain⟨f,hf⟩:∃f,f=auV es q:=⟨_,rfl⟩
   obtain⟨Wr,hWr⟩:∃Wr,Wr=auW f L:=⟨_,rfl⟩
   rw[←hf,←hWr]at hn2 ht2
   rw[←hf]at hal
   subst hn2
   obtain⟨z1,z2,z3⟩:=auE_zero.1 h1
   obtain⟨g1,g2,g3⟩:=auC_zero.1 z2
   have HE2:Hid (∀p∈L,auE es q [p]=0):=fun p hp=>auE_zero.2 ⟨z1,auC_sub (List.singleton_sublist.2 hp) z2,z3⟩
   have HWN:Hid (∀p∈L,amT p.nm Wr=decide (f p= -1)):=fun p hp=>by
    rw[Bool.eq_iff_iff,amT_iff,decide_eq_true_iff,hWr]
    exact auW_nm g3 hp
   have hbl:Wr.length≤12:=by
    rw[hWr]
    unfold auW
    rw[List.length_map];exact Nat.le_trans (List.length_filter_le _ _) g1
   have HAM:=fun s W (hW:Below G.heap.size G W)=>among_any s Wr p12 c12 W (ht2.up (kqt hb3G hW)) (by omega)
   have hn12:n≤12:=by rw[HN.out];exact g1
   have HFE:Hid (f=auV es q):=hf
   have HAL:Hid (a1=auAl f L):=hal
   clear han1 hal hn1 ht1 ht2 h1 z1 z2 z3 g1 g2 g3 hf hWr
   go_wp2_with fail
   rw[←hG]
   clear hG
   go_loopw [10,11,12] (fun u v i wr=>∃(k:Nat) (pb fb:Bool),k≤n∧i= .int .i64 k∧u= .bool pb∧v= .bool fb∧Hid (Below G.heap.size G wr)∧Hid ((pb=true↔∃p∈L.take k,p.fb=false∧f p=1)∧(fb=true↔∃p∈L.take k,p.fb=true∧f p=1))) (fun _ _ i _=>n-(intOf i).toNat)
   case atStart=>exact⟨0,false,false,Nat.zero_le _,rfl,rfl,rfl,Below.refl _ _,by simp[Hid]⟩
   case round=>
    obtain⟨k,pb,fb,hk,rfl,rfl,rfl,HB,HD⟩:=hrel
    have hbr:Below V.heap.size V wr:=kqt hbVG HB.out
    by_cases hlt:k<n
    · have i1:(k:Int)<(n:Int):=by omega
      have hkl:k<L.length:=by have:=HN.out;omega
      have HTK:Hid (L.take (k+1)=L.take k++[L[k]]):=List.take_succ_eq_append_getElem hkl
      have HYM:Hid (L[k]∈L):=List.getElem_mem hkl
      have hPA:=HPA.out wr hbr
      obtain⟨b,off,pc,cc,e0,hbw,hpo,k0,k1,_⟩:=hPA.pl.at hkl
      subst e0
      have hone:=hPA.pl.one hkl
      have HP1:Hid (PArg wr [L[k]] 1 (some ⟨b,off+k*15,none⟩) (cl-k)):=⟨rfl,hone,by omega,by unfold maxLen;omega,fun x hx=>by rw[List.mem_singleton.1 hx];exact hPA.num _ HYM.out⟩
      generalize L[k]=y at *
      obtain⟨ab,hab⟩:∃ab,ab=auAl f [y]:=⟨_,rfl⟩
      obtain⟨nb,hnb⟩:∃nb,nb=(auBy f [y]).length:=⟨_,rfl⟩
      obtain⟨nw,hnw⟩:∃nw,nw=(auW f [y]).length:=⟨_,rfl⟩
      obtain⟨mb,hmb⟩:∃mb,mb=amT y.nm Wr:=⟨_,rfl⟩
      obtain⟨fbv,hfv⟩:∃fbv,fbv=y.fb:=⟨_,rfl⟩
      rw[←hfv]at k1
      have HABC:Hid ((ab=false∧nb=1∧nw=0∧mb=false∧fbv=true∧y.fb=true∧f y=1)∨(ab=true∧nb=1∧nw=0∧mb=false∧fbv=false∧y.fb=false∧f y=1)∨(ab=false∧nb=0∧nw=1∧mb=true∧¬f y=1∧f y= -1)∨(ab=false∧nb=0∧nw=0∧mb=false∧¬f y=1∧¬f y= -1)):=by
       have h:=HWN.out y HYM.out
       show _∨_
       rw[hab,hnb,hnw,hmb,h,hfv,(au_one y).1,(au_one y).2.1,(au_one y).2.2]
       by_cases q1:f y=1
       · cases hb:y.fb<;>simp[q1]
       · by_cases q2:f y= -1<;>simp[q1,q2]
      have Hab:Hid (ab=auAl f [y]):=hab
      have Hnb:Hid (nb=(auBy f [y]).length):=hnb
      have Hnw:Hid (nw=(auW f [y]).length):=hnw
      have Hmb:Hid (mb=amT y.nm Wr):=hmb
      have HYC:Hid (∀W,Below wr.heap.size wr W→W.cell? ⟨b,off+k*15,none⟩=some (.string y.nm)∧W.cell? ⟨b,off+k*15+1,none⟩=some (.bool fbv)):=fun W hW=>⟨(hW.cell (p:=⟨b,off+k*15,none⟩) hbw).trans k0,(hW.cell (p:=⟨b,off+k*15+1,none⟩) hbw).trans k1⟩
      clear hone hPA hpo hab hnb hnw hmb hfv k0 k1 hbw
      have HSK:Hid (∀w',Below wr.heap.size wr w'→w'.cell? ⟨w.heap.size,0,none⟩=some (.string q.who.t)∧w'.cell? ⟨w.heap.size,1,none⟩=some (.string q.who.i)∧w'.cell? ⟨w.heap.size,2,none⟩=some (.string q.act.t)∧w'.cell? ⟨w.heap.size,3,none⟩=some (.string q.act.i)∧w'.cell? ⟨w.heap.size,4,none⟩=some (.string q.what.t)∧w'.cell? ⟨w.heap.size,5,none⟩=some (.string q.what.i)∧w'.cell? ⟨w.heap.size,6,none⟩=some (.slice pq q.cx.length cq)):=fun w' hW=>(HA.out w' (kqt hbr hW)).cells
      have j1:IntKind.i64.wrap ((k:Int)+1)=(k:Int)+1:=by rw[IntKind.wrap_i64];omega
      have j2:((k:Int)+1).toNat=k+1:=by omega
      have j3:(k:Int)+1≤(cl:Int):=by omega
      have j4:¬cl=k:=by omega
      have j5:(0:Int)≤(k:Int)+1:=by omega
      obtain⟨Z0,hZ0⟩:∃Z0,Z0=wr.drew:=⟨_,rfl⟩
      have hb0:Below wr.heap.size wr Z0:=by rw[hZ0];exact kqx
      have hs0:Z0.heap.size=wr.heap.size:=by rw[hZ0];rfl
      go_wp2_with fail
      refine wp_region_held_drew (S:=fun w'=>w'.cell? ⟨w.heap.size,0,none⟩=some (.string q.who.t)∧w'.cell? ⟨w.heap.size,1,none⟩=some (.string q.who.i)∧w'.cell? ⟨w.heap.size,2,none⟩=some (.string q.act.t)∧w'.cell? ⟨w.heap.size,3,none⟩=some (.string q.act.i)∧w'.cell? ⟨w.heap.size,4,none⟩=some (.string q.what.t)∧w'.cell? ⟨w.heap.size,5,none⟩=some (.string q.what.i)∧w'.cell? ⟨w.heap.size,6,none⟩=some (.slice pq q.cx.length cq)) (by kernel_rfl) (by rw[←hZ0];exact HSK.out _ hb0) (fun hHeld=>?_)
      rw[←hZ0]at hHeld ⊢
      clear hZ0
      refine wpAnyH_take (i:=0) (v:=?_) rfl (by kernel_rfl) (by kernel_rfl) (by kernel_rfl) (fun _ _ _ h=>h) (Or.inl ⟨by kernel_rfl,?_⟩) (by assumption) ?_
      rotate_left
      · intro w hSw
        go_simp
        all_goals with_reducible rfl
      try simp only[Act.put,List.getElem_toArray,List.getElem_cons_succ,List.getElem_cons_zero,List.setIfInBounds_toArray,List.set_cons_zero,List.set_cons_succ]
      refine wpAnyH_take (i:=1) (v:=?_) rfl (by kernel_rfl) (by kernel_rfl) (by kernel_rfl) (fun _ _ _ h=>h) (Or.inl ⟨by kernel_rfl,?_⟩) (by assumption) ?_
      rotate_left
      · intro w hSw
        go_simp
        all_goals with_reducible rfl
      try simp only[Act.put,List.getElem_toArray,List.getElem_cons_succ,List.getElem_cons_zero,List.setIfInBounds_toArray,List.set_cons_zero,List.set_cons_succ]
      refine wpAnyH_take (i:=2) (v:=?_) rfl (by kernel_rfl) (by kernel_rfl) (by kernel_rfl) (fun _ _ _ h=>h) (Or.inl ⟨by kernel_rfl,?_⟩) (by assumption) ?_
      rotate_left
      · intro w hSw
        go_simp
        all_goals with_reducible rfl
      try simp only[Act.put,List.getElem_toArray,List.getElem_cons_succ,List.getElem_cons_zero,List.setIfInBounds_toArray,List.set_cons_zero,List.set_cons_succ]
      refine wpAnyH_take (i:=3) (v:=?_) rfl (by kernel_rfl) (by kernel_rfl) (by kernel_rfl) (fun _ _ _ h=>h) (Or.inl ⟨by kernel_rfl,?_⟩) (by assumption) ?_
      rotate_left
      · intro w hSw
        go_simp
        all_goals with_reducible rfl
      try simp only[Act.put,List.getElem_toArray,List.getElem_cons_succ,List.getElem_cons_zero,List.setIfInBounds_toArray,List.set_cons_zero,List.set_cons_succ]
      refine wpAnyH_take (i:=4) (v:=?_) rfl (by kernel_rfl) (by kernel_rfl) (by kernel_rfl) (fun _ _ _ h=>h) (Or.inl ⟨by kernel_rfl,?_⟩) (by assumption) ?_
      rotate_left
      · intro w hSw
        go_simp
        all_goals with_reducible rfl
      try simp only[Act.put,List.getElem_toArray,List.getElem_cons_succ,List.getElem_cons_zero,List.setIfInBounds_toArray,List.set_cons_zero,List.set_cons_succ]
      refine wpAnyH_take (i:=5) (v:=?_) rfl (by kernel_rfl) (by kernel_rfl) (by kernel_rfl) (fun _ _ _ h=>h) (Or.inl ⟨by kernel_rfl,?_⟩) (by assumption) ?_
      rotate_left
      · intro w hSw
        go_simp
        all_goals with_reducible rfl
      try simp only[Act.put,List.getElem_toArray,List.getElem_cons_succ,List.getElem_cons_zero,List.setIfInBounds_toArray,List.set_cons_zero,List.set_cons_succ]
      refine wpAnyH_take (i:=6) (v:=?_) rfl (by kernel_rfl) (by kernel_rfl) (by kernel_rfl) (fun _ _ _ h=>h) (Or.inl ⟨by kernel_rfl,?_⟩) (by assumption) ?_
      rotate_left
      · intro w hSw
        go_simp
        all_goals with_reducible rfl
      try simp only[Act.put,List.getElem_toArray,List.getElem_cons_succ,List.getElem_cons_zero,List.setIfInBounds_toArray,List.set_cons_zero,List.set_cons_succ]
      refine wpAnyH_ready (rs:=[7,11]) (by kernel_rfl) (by simp) ?_
      refine AllReadyH.cons rfl (fun K hK=>?_) (AllReadyH.cons rfl (fun K hK=>?_) (AllReadyH.nil))
      focus
       go_simp
       go_wp2_with fail
       refine(HK [y] 1 _ _ _ (HEA.out _ (kqt hbr hb0)) (HP1.out.up hb0)).mono ?_
       rintro _ w5 ⟨hr5,hb5'⟩
       obtain⟨p51,c51,p52,c52,rfl,_,_⟩:=hr5.good (HE2.out y HYM.out)
       rw[←HFE.out,←Hab.out,←Hnb.out,←Hnw.out]
       have hb5:Below wr.heap.size wr w5:=kqt hb0 hb5'
       clear hr5
       refine hK.out _ _ (HSK.out _ hb5) (fun hHeld=>?_)
       clear hK K
       try simp only[Act.put,List.getElem_toArray,List.getElem_cons_succ,List.getElem_cons_zero,List.setIfInBounds_toArray,List.set_cons_zero,List.set_cons_succ]
       refine wpAnyH_take (i:=8) (v:=?_) rfl (by kernel_rfl) (by kernel_rfl) (by kernel_rfl) (fun _ _ _ h=>h) (Or.inl ⟨by kernel_rfl,?_⟩) (by assumption) ?_
       rotate_left
       · intro w hSw
         go_simp
         all_goals with_reducible rfl
       try simp only[Act.put,List.getElem_toArray,List.getElem_cons_succ,List.getElem_cons_zero,List.setIfInBounds_toArray,List.set_cons_zero,List.set_cons_succ]
       refine wpAnyH_take (i:=9) (v:=?_) rfl (by kernel_rfl) (by kernel_rfl) (by kernel_rfl) (fun _ _ _ h=>h) (Or.inl ⟨by kernel_rfl,?_⟩) (by assumption) ?_
       rotate_left
       · intro w hSw
         go_simp
         all_goals with_reducible rfl
       try simp only[Act.put,List.getElem_toArray,List.getElem_cons_succ,List.getElem_cons_zero,List.setIfInBounds_toArray,List.set_cons_zero,List.set_cons_succ]
       refine wpAnyH_take (i:=10) (v:=?_) rfl (by kernel_rfl) (by kernel_rfl) (by kernel_rfl) (fun _ _ _ h=>h) (Or.inl ⟨by kernel_rfl,?_⟩) (by assumption) ?_
       rotate_left
       · intro w hSw
         go_simp
         all_goals with_reducible rfl
       try simp only[Act.put,List.getElem_toArray,List.getElem_cons_succ,List.getElem_cons_zero,List.setIfInBounds_toArray,List.set_cons_zero,List.set_cons_succ]
       refine wpAnyH_ready (rs:=[11]) (by kernel_rfl) (by simp) ?_
       refine AllReadyH.cons rfl (fun K hK=>?_) (AllReadyH.nil)
       go_simp
       obtain⟨Za,hZa⟩:∃Za,Za=w5.alloc (.cells #[.bool false,.slice none 0 0,.slice none 0 0] 33):=⟨_,rfl⟩
       have hbZa:Below wr.heap.size wr Za:=by rw[hZa];exact kqt hb5 kqx
       obtain⟨B,hB⟩:∃B,B=w5.heap.size:=⟨_,rfl⟩
       have hBr:wr.heap.size≤B:=by rw[hB];exact hb5.size
       have hA:Blk Za B #[.bool false,.slice none 0 0,.slice none 0 0] 33:=by rw[hZa,hB];exact Blk.new _ _ _ rfl
       rw[←hZa,←hB]
       clear hZa hB
       refine hK.out _ _ (HSK.out _ hbZa) (fun hHeld=>?_)
       clear hK K
       try simp only[Act.put,List.getElem_toArray,List.getElem_cons_succ,List.getElem_cons_zero,List.setIfInBounds_toArray,List.set_cons_zero,List.set_cons_succ]
       have e0:Za.cell? ⟨B,0,none⟩=some (.bool false):=hA.cell 0
       have e1:Za.cell? ⟨B,1,none⟩=some (.slice none 0 0):=hA.cell 1
       have e2:Za.cell? ⟨B,2,none⟩=some (.slice none 0 0):=hA.cell 2
       have g0:=hA.free 0
       have g1:=hA.free 1
       have g2:=hA.free 2
       obtain⟨X,hX⟩:∃X,X=((Za.setCell ⟨B,0,none⟩ (.bool ab)).setCell ⟨B,1,none⟩ (.slice p51 nb c51)).setCell ⟨B,2,none⟩ (.slice p52 nw c52):=⟨_,rfl⟩
       obtain⟨hBX,hKX⟩:=hA.put3 hX
       have hbX:Below wr.heap.size wr X:=hbZa.trans (hKX.below hbZa.size (fun a e=>by omega))
       refine wpAnyH_ready (rs:=[12]) (by kernel_rfl) (by simp) ?_
       refine AllReadyH.cons rfl (fun K hK=>?_) (AllReadyH.nil)
       go_simp
       rw[←hX]
       refine hK.out _ _ (HSK.out _ hbX) (fun hHeld=>?_)
       clear hK K
       try simp only[Act.put,List.getElem_toArray,List.getElem_cons_succ,List.getElem_cons_zero,List.setIfInBounds_toArray,List.set_cons_zero,List.set_cons_succ]
       clear hX e0 e1 e2 g0 g1 g2 hA hKX
       refine wpAnyH_take (i:=13) (v:=?_) rfl (by kernel_rfl) (by kernel_rfl) (by kernel_rfl) (fun _ _ _ h=>h) (Or.inl ⟨by kernel_rfl,?_⟩) (by assumption) ?_
       rotate_left
       · intro w hSw
         go_simp
         all_goals with_reducible rfl
       try simp only[Act.put,List.getElem_toArray,List.getElem_cons_succ,List.getElem_cons_zero,List.setIfInBounds_toArray,List.set_cons_zero,List.set_cons_succ]
       refine wpAnyH_done (by kernel_rfl) ?_ _
       clear hHeld
      rotate_left
      focus
       go_simp
       obtain⟨Zb,hZb⟩:∃Zb,Zb=Z0.alloc (.cells #[.bool false,.slice none 0 0,.slice none 0 0] 33):=⟨_,rfl⟩
       have hbZb:Below wr.heap.size wr Zb:=by rw[hZb];exact kqt hb0 kqx
       obtain⟨B,hB⟩:∃B,B=wr.heap.size:=⟨_,rfl⟩
       have hBr:wr.heap.size≤B:=by rw[hB];exact Nat.le_refl _
       have hA0:Blk Zb B #[.bool false,.slice none 0 0,.slice none 0 0] 33:=by rw[hZb,hB];exact Blk.new _ _ _ hs0.symm
       rw[←hZb,←hB]
       clear hZb hB
       refine hK.out _ _ (HSK.out _ hbZb) (fun hHeld=>?_)
       clear hK K
       try simp only[Act.put,List.getElem_toArray,List.getElem_cons_succ,List.getElem_cons_zero,List.setIfInBounds_toArray,List.set_cons_zero,List.set_cons_succ]
       refine wpAnyH_ready (rs:=[7]) (by kernel_rfl) (by simp) ?_
       refine AllReadyH.cons rfl (fun K hK=>?_) (AllReadyH.nil)
       go_simp
       go_wp2_with fail
       refine(HK [y] 1 _ _ _ (HEA.out _ (kqt hbr hbZb)) (HP1.out.up hbZb)).mono ?_
       rintro _ w5 ⟨hr5,hb5'⟩
       obtain⟨p51,c51,p52,c52,rfl,_,_⟩:=hr5.good (HE2.out y HYM.out)
       rw[←HFE.out,←Hab.out,←Hnb.out,←Hnw.out]
       have hb5:Below wr.heap.size wr w5:=kqt hbZb hb5'
       clear hr5
       refine hK.out _ _ (HSK.out _ hb5) (fun hHeld=>?_)
       clear hK K
       try simp only[Act.put,List.getElem_toArray,List.getElem_cons_succ,List.getElem_cons_zero,List.setIfInBounds_toArray,List.set_cons_zero,List.set_cons_succ]
       have hA:=hA0.up hb5'
       clear hA0
       refine wpAnyH_take (i:=8) (v:=?_) rfl (by kernel_rfl) (by kernel_rfl) (by kernel_rfl) (fun _ _ _ h=>h) (Or.inl ⟨by kernel_rfl,?_⟩) (by assumption) ?_
       rotate_left
       · intro w hSw
         go_simp
         all_goals with_reducible rfl
       try simp only[Act.put,List.getElem_toArray,List.getElem_cons_succ,List.getElem_cons_zero,List.setIfInBounds_toArray,List.set_cons_zero,List.set_cons_succ]
       refine wpAnyH_take (i:=9) (v:=?_) rfl (by kernel_rfl) (by kernel_rfl) (by kernel_rfl) (fun _ _ _ h=>h) (Or.inl ⟨by kernel_rfl,?_⟩) (by assumption) ?_
       rotate_left
       · intro w hSw
         go_simp
         all_goals with_reducible rfl
       try simp only[Act.put,List.getElem_toArray,List.getElem_cons_succ,List.getElem_cons_zero,List.setIfInBounds_toArray,List.set_cons_zero,List.set_cons_succ]
       refine wpAnyH_take (i:=10) (v:=?_) rfl (by kernel_rfl) (by kernel_rfl) (by kernel_rfl) (fun _ _ _ h=>h) (Or.inl ⟨by kernel_rfl,?_⟩) (by assumption) ?_
       rotate_left
       · intro w hSw
         go_simp
         all_goals with_reducible rfl
       try simp only[Act.put,List.getElem_toArray,List.getElem_cons_succ,List.getElem_cons_zero,List.setIfInBounds_toArray,List.set_cons_zero,List.set_cons_succ]
       have hbw5:=hb5
       have e0:w5.cell? ⟨B,0,none⟩=some (.bool false):=hA.cell 0
       have e1:w5.cell? ⟨B,1,none⟩=some (.slice none 0 0):=hA.cell 1
       have e2:w5.cell? ⟨B,2,none⟩=some (.slice none 0 0):=hA.cell 2
       have g0:=hA.free 0
       have g1:=hA.free 1
       have g2:=hA.free 2
       obtain⟨X,hX⟩:∃X,X=((w5.setCell ⟨B,0,none⟩ (.bool ab)).setCell ⟨B,1,none⟩ (.slice p51 nb c51)).setCell ⟨B,2,none⟩ (.slice p52 nw c52):=⟨_,rfl⟩
       obtain⟨hBX,hKX⟩:=hA.put3 hX
       have hbX:Below wr.heap.size wr X:=hbw5.trans (hKX.below hbw5.size (fun a e=>by omega))
       refine wpAnyH_ready (rs:=[12]) (by kernel_rfl) (by simp) ?_
       refine AllReadyH.cons rfl (fun K hK=>?_) (AllReadyH.nil)
       go_simp
       rw[←hX]
       refine hK.out _ _ (HSK.out _ hbX) (fun hHeld=>?_)
       clear hK K
       try simp only[Act.put,List.getElem_toArray,List.getElem_cons_succ,List.getElem_cons_zero,List.setIfInBounds_toArray,List.set_cons_zero,List.set_cons_succ]
       clear hX e0 e1 e2 g0 g1 g2 hA hKX
       refine wpAnyH_take (i:=13) (v:=?_) rfl (by kernel_rfl) (by kernel_rfl) (by kernel_rfl) (fun _ _ _ h=>h) (Or.inl ⟨by kernel_rfl,?_⟩) (by assumption) ?_
       rotate_left
       · intro w hSw
         go_simp
         all_goals with_reducible rfl
       try simp only[Act.put,List.getElem_toArray,List.getElem_cons_succ,List.getElem_cons_zero,List.setIfInBounds_toArray,List.set_cons_zero,List.set_cons_succ]
       refine wpAnyH_done (by kernel_rfl) ?_ _
       clear hHeld
      all_goals
       obtain⟨S3,hS3⟩:∃S3:World→Prop,S3=fun w'=>w'.cell? ⟨B,0,none⟩=some (.bool ab)∧w'.cell? ⟨B,1,none⟩=some (.slice p51 nb c51)∧w'.cell? ⟨B,2,none⟩=some (.slice p52 nw c52)∧w'.cell? ⟨b,off+k*15,none⟩=some (.string y.nm)∧w'.cell? ⟨b,off+k*15+1,none⟩=some (.bool fbv)∧w'.cell? ⟨w3.heap.size,2,none⟩=some (.slice p12 Wr.length c12):=⟨_,rfl⟩
       have HS3:Hid (∀w',Below X.heap.size X w'→S3 w'):=fun w' hW=>by
        rw[hS3]
        exact⟨(hBX.up hW).cell 0,(hBX.up hW).cell 1,(hBX.up hW).cell 2,(HYC.out w' (kqt hbX hW)).1,(HYC.out w' (kqt hbX hW)).2,(HB1.out w' (kqt HB.out (kqt hbX hW))).cell 2⟩
       have HAM1:=HAM y.nm
       rw[←Hmb.out]at HAM1
       obtain⟨Z3,hZ3⟩:∃Z3,Z3=X.drew:=⟨_,rfl⟩
       have hb3:Below X.heap.size X Z3:=by rw[hZ3];exact kqx
       rcases HABC.out with⟨rfl,rfl,rfl,hmb,rfl,hf1,hf2⟩ | ⟨rfl,rfl,rfl,hmb,rfl,hf1,hf2⟩ | ⟨rfl,rfl,rfl,hmb,hf1,hf2⟩ | ⟨rfl,rfl,rfl,hmb,hf1,hf2⟩
       all_goals
        have HF1:Hid (_∧_):=⟨hf1,hf2⟩
        clear hf1 hf2 hBX HYC
        rw[hmb]at HAM1
        clear hmb
        go_wp2_with fail
        refine wp_region_held_drew (S:=S3) (by kernel_rfl) (by rw[←hZ3];exact HS3.out _ hb3) (fun hHeld=>?_)
        rw[←hZ3]at hHeld ⊢
        clear hZ3
        refine wpAnyH_take (i:=0) (v:=?_) rfl (by kernel_rfl) (by kernel_rfl) (by kernel_rfl) (fun _ _ _ h=>h) (Or.inl ⟨by kernel_rfl,?_⟩) (by assumption) ?_
        rotate_left
        · intro w hSw
          rw[hS3]at hSw
          obtain⟨q0,q1,q2,q3,q4,q5⟩:=hSw
          go_simp
          all_goals with_reducible rfl
        try simp only[Act.put,List.getElem_toArray,List.getElem_cons_succ,List.getElem_cons_zero,List.setIfInBounds_toArray,List.set_cons_zero,List.set_cons_succ]
        refine wpAnyH_take (i:=1) (v:=?_) rfl (by kernel_rfl) (by kernel_rfl) (by kernel_rfl) (fun _ _ _ h=>h) (Or.inl ⟨by kernel_rfl,?_⟩) (by assumption) ?_
        rotate_left
        · intro w hSw
          rw[hS3]at hSw
          obtain⟨q0,q1,q2,q3,q4,q5⟩:=hSw
          go_simp
          all_goals with_reducible rfl
        try simp only[Act.put,List.getElem_toArray,List.getElem_cons_succ,List.getElem_cons_zero,List.setIfInBounds_toArray,List.set_cons_zero,List.set_cons_succ]
        refine wpAnyH_take (i:=2) (v:=?_) rfl (by kernel_rfl) (by kernel_rfl) (by kernel_rfl) (fun _ _ _ h=>h) (Or.inl ⟨by kernel_rfl,?_⟩) (by assumption) ?_
        rotate_left
        · intro w hSw
          rw[hS3]at hSw
          obtain⟨q0,q1,q2,q3,q4,q5⟩:=hSw
          go_simp
          all_goals with_reducible rfl
        try simp only[Act.put,List.getElem_toArray,List.getElem_cons_succ,List.getElem_cons_zero,List.setIfInBounds_toArray,List.set_cons_zero,List.set_cons_succ]
        refine wpAnyH_take (i:=3) (v:=?_) rfl (by kernel_rfl) (by kernel_rfl) (by kernel_rfl) (fun _ _ _ h=>h) (Or.inl ⟨by kernel_rfl,?_⟩) (by assumption) ?_
        rotate_left
        · intro w hSw
          rw[hS3]at hSw
          obtain⟨q0,q1,q2,q3,q4,q5⟩:=hSw
          go_simp
          all_goals with_reducible rfl
        try simp only[Act.put,List.getElem_toArray,List.getElem_cons_succ,List.getElem_cons_zero,List.setIfInBounds_toArray,List.set_cons_zero,List.set_cons_succ]
        refine wpAnyH_take (i:=4) (v:=?_) rfl (by kernel_rfl) (by kernel_rfl) (by kernel_rfl) (fun _ _ _ h=>h) (Or.inl ⟨by kernel_rfl,?_⟩) (by assumption) ?_
        rotate_left
        · intro w hSw
          rw[hS3]at hSw
          obtain⟨q0,q1,q2,q3,q4,q5⟩:=hSw
          go_simp
          all_goals with_reducible rfl
        try simp only[Act.put,List.getElem_toArray,List.getElem_cons_succ,List.getElem_cons_zero,List.setIfInBounds_toArray,List.set_cons_zero,List.set_cons_succ]
        refine wpAnyH_take (i:=5) (v:=?_) rfl (by kernel_rfl) (by kernel_rfl) (by kernel_rfl) (fun _ _ _ h=>h) (Or.inl ⟨by kernel_rfl,?_⟩) (by assumption) ?_
        rotate_left
        · intro w hSw
          rw[hS3]at hSw
          obtain⟨q0,q1,q2,q3,q4,q5⟩:=hSw
          go_simp
          all_goals with_reducible rfl
        try simp only[Act.put,List.getElem_toArray,List.getElem_cons_succ,List.getElem_cons_zero,List.setIfInBounds_toArray,List.set_cons_zero,List.set_cons_succ]
        first
         | (refine wpAnyH_take (i:=6) (v:=undef) rfl (by kernel_rfl) (by kernel_rfl) (by kernel_rfl) (fun _ _ _ h=>h) (Or.inr ⟨by rfl,rfl⟩) (by assumption) ?_)
         | (refine wpAnyH_take (i:=6) (v:=?_) rfl (by kernel_rfl) (by kernel_rfl) (by kernel_rfl) (fun _ _ _ h=>h) (Or.inl ⟨by kernel_rfl,?_⟩) (by assumption) ?_
            rotate_left
            · intro w hSw
              rw[hS3]at hSw
              obtain⟨q0,q1,q2,q3,q4,q5⟩:=hSw
              go_simp
              all_goals with_reducible rfl)
        try simp only[Act.put,List.getElem_toArray,List.getElem_cons_succ,List.getElem_cons_zero,List.setIfInBounds_toArray,List.set_cons_zero,List.set_cons_succ]
        first
         | (refine wpAnyH_take (i:=7) (v:=undef) rfl (by kernel_rfl) (by kernel_rfl) (by kernel_rfl) (fun _ _ _ h=>h) (Or.inr ⟨by rfl,rfl⟩) (by assumption) ?_)
         | (refine wpAnyH_take (i:=7) (v:=?_) rfl (by kernel_rfl) (by kernel_rfl) (by kernel_rfl) (fun _ _ _ h=>h) (Or.inl ⟨by kernel_rfl,?_⟩) (by assumption) ?_
            rotate_left
            · intro w hSw
              rw[hS3]at hSw
              obtain⟨q0,q1,q2,q3,q4,q5⟩:=hSw
              go_simp
              all_goals with_reducible rfl)
        try simp only[Act.put,List.getElem_toArray,List.getElem_cons_succ,List.getElem_cons_zero,List.setIfInBounds_toArray,List.set_cons_zero,List.set_cons_succ]
        first
         | (refine wpAnyH_take (i:=8) (v:=undef) rfl (by kernel_rfl) (by kernel_rfl) (by kernel_rfl) (fun _ _ _ h=>h) (Or.inr ⟨by rfl,rfl⟩) (by assumption) ?_)
         | (refine wpAnyH_take (i:=8) (v:=?_) rfl (by kernel_rfl) (by kernel_rfl) (by kernel_rfl) (fun _ _ _ h=>h) (Or.inl ⟨by kernel_rfl,?_⟩) (by assumption) ?_
            rotate_left
            · intro w hSw
              rw[hS3]at hSw
              obtain⟨q0,q1,q2,q3,q4,q5⟩:=hSw
              go_simp
              all_goals with_reducible rfl)
        try simp only[Act.put,List.getElem_toArray,List.getElem_cons_succ,List.getElem_cons_zero,List.setIfInBounds_toArray,List.set_cons_zero,List.set_cons_succ]
        first
         | (refine wpAnyH_take (i:=9) (v:=undef) rfl (by kernel_rfl) (by kernel_rfl) (by kernel_rfl) (fun _ _ _ h=>h) (Or.inr ⟨by rfl,rfl⟩) (by assumption) ?_)
         | (refine wpAnyH_take (i:=9) (v:=?_) rfl (by kernel_rfl) (by kernel_rfl) (by kernel_rfl) (fun _ _ _ h=>h) (Or.inl ⟨by kernel_rfl,?_⟩) (by assumption) ?_
            rotate_left
            · intro w hSw
              rw[hS3]at hSw
              obtain⟨q0,q1,q2,q3,q4,q5⟩:=hSw
              go_simp
              all_goals with_reducible rfl)
        try simp only[Act.put,List.getElem_toArray,List.getElem_cons_succ,List.getElem_cons_zero,List.setIfInBounds_toArray,List.set_cons_zero,List.set_cons_succ]
        first
         | (refine wpAnyH_take (i:=10) (v:=undef) rfl (by kernel_rfl) (by kernel_rfl) (by kernel_rfl) (fun _ _ _ h=>h) (Or.inr ⟨by rfl,rfl⟩) (by assumption) ?_)
         | (refine wpAnyH_take (i:=10) (v:=?_) rfl (by kernel_rfl) (by kernel_rfl) (by kernel_rfl) (fun _ _ _ h=>h) (Or.inl ⟨by kernel_rfl,?_⟩) (by assumption) ?_
            rotate_left
            · intro w hSw
              rw[hS3]at hSw
              obtain⟨q0,q1,q2,q3,q4,q5⟩:=hSw
              go_simp
              all_goals with_reducible rfl)
        try simp only[Act.put,List.getElem_toArray,List.getElem_cons_succ,List.getElem_cons_zero,List.setIfInBounds_toArray,List.set_cons_zero,List.set_cons_succ]
        refine wpAnyH_take (i:=11) (v:=?_) rfl (by kernel_rfl) (by kernel_rfl) (by kernel_rfl) (fun _ _ _ h=>h) (Or.inl ⟨by kernel_rfl,?_⟩) (by assumption) ?_
        rotate_left
        · intro w hSw
          rw[hS3]at hSw
          obtain⟨q0,q1,q2,q3,q4,q5⟩:=hSw
          go_simp
          all_goals with_reducible rfl
        try simp only[Act.put,List.getElem_toArray,List.getElem_cons_succ,List.getElem_cons_zero,List.setIfInBounds_toArray,List.set_cons_zero,List.set_cons_succ]
        refine wpAnyH_take (i:=12) (v:=?_) rfl (by kernel_rfl) (by kernel_rfl) (by kernel_rfl) (fun _ _ _ h=>h) (Or.inl ⟨by kernel_rfl,?_⟩) (by assumption) ?_
        rotate_left
        · intro w hSw
          rw[hS3]at hSw
          obtain⟨q0,q1,q2,q3,q4,q5⟩:=hSw
          go_simp
          all_goals with_reducible rfl
        try simp only[Act.put,List.getElem_toArray,List.getElem_cons_succ,List.getElem_cons_zero,List.setIfInBounds_toArray,List.set_cons_zero,List.set_cons_succ]
        refine wpAnyH_take (i:=13) (v:=?_) rfl (by kernel_rfl) (by kernel_rfl) (by kernel_rfl) (fun _ _ _ h=>h) (Or.inl ⟨by kernel_rfl,?_⟩) (by assumption) ?_
        rotate_left
        · intro w hSw
          rw[hS3]at hSw
          obtain⟨q0,q1,q2,q3,q4,q5⟩:=hSw
          go_simp
          all_goals with_reducible rfl
        try simp only[Act.put,List.getElem_toArray,List.getElem_cons_succ,List.getElem_cons_zero,List.setIfInBounds_toArray,List.set_cons_zero,List.set_cons_succ]
        refine wpAnyH_take (i:=14) (v:=?_) rfl (by kernel_rfl) (by kernel_rfl) (by kernel_rfl) (fun _ _ _ h=>h) (Or.inl ⟨by kernel_rfl,?_⟩) (by assumption) ?_
        rotate_left
        · intro w hSw
          rw[hS3]at hSw
          obtain⟨q0,q1,q2,q3,q4,q5⟩:=hSw
          go_simp
          all_goals with_reducible rfl
        try simp only[Act.put,List.getElem_toArray,List.getElem_cons_succ,List.getElem_cons_zero,List.setIfInBounds_toArray,List.set_cons_zero,List.set_cons_succ]
        refine wpAnyH_take (i:=15) (v:=?_) rfl (by kernel_rfl) (by kernel_rfl) (by kernel_rfl) (fun _ _ _ h=>h) (Or.inl ⟨by kernel_rfl,?_⟩) (by assumption) ?_
        rotate_left
        · intro w hSw
          rw[hS3]at hSw
          obtain⟨q0,q1,q2,q3,q4,q5⟩:=hSw
          go_simp
          all_goals with_reducible rfl
        try simp only[Act.put,List.getElem_toArray,List.getElem_cons_succ,List.getElem_cons_zero,List.setIfInBounds_toArray,List.set_cons_zero,List.set_cons_succ]
        refine wpAnyH_take (i:=16) (v:=?_) rfl (by kernel_rfl) (by kernel_rfl) (by kernel_rfl) (fun _ _ _ h=>h) (Or.inl ⟨by kernel_rfl,?_⟩) (by assumption) ?_
        rotate_left
        · intro w hSw
          rw[hS3]at hSw
          obtain⟨q0,q1,q2,q3,q4,q5⟩:=hSw
          go_simp
          all_goals with_reducible rfl
        try simp only[Act.put,List.getElem_toArray,List.getElem_cons_succ,List.getElem_cons_zero,List.setIfInBounds_toArray,List.set_cons_zero,List.set_cons_succ]
        refine wpAnyH_take (i:=17) (v:=?_) rfl (by kernel_rfl) (by kernel_rfl) (by kernel_rfl) (fun _ _ _ h=>h) (Or.inl ⟨by kernel_rfl,?_⟩) (by assumption) ?_
        rotate_left
        · intro w hSw
          rw[hS3]at hSw
          obtain⟨q0,q1,q2,q3,q4,q5⟩:=hSw
          go_simp
          all_goals with_reducible rfl
        try simp only[Act.put,List.getElem_toArray,List.getElem_cons_succ,List.getElem_cons_zero,List.setIfInBounds_toArray,List.set_cons_zero,List.set_cons_succ]
        refine wpAnyH_take (i:=18) (v:=?_) rfl (by kernel_rfl) (by kernel_rfl) (by kernel_rfl) (fun _ _ _ h=>h) (Or.inl ⟨by kernel_rfl,?_⟩) (by assumption) ?_
        rotate_left
        · intro w hSw
          rw[hS3]at hSw
          obtain⟨q0,q1,q2,q3,q4,q5⟩:=hSw
          go_simp
          all_goals with_reducible rfl
        try simp only[Act.put,List.getElem_toArray,List.getElem_cons_succ,List.getElem_cons_zero,List.setIfInBounds_toArray,List.set_cons_zero,List.set_cons_succ]
        refine wpAnyH_take (i:=19) (v:=?_) rfl (by kernel_rfl) (by kernel_rfl) (by kernel_rfl) (fun _ _ _ h=>h) (Or.inl ⟨by kernel_rfl,?_⟩) (by assumption) ?_
        rotate_left
        · intro w hSw
          rw[hS3]at hSw
          obtain⟨q0,q1,q2,q3,q4,q5⟩:=hSw
          go_simp
          all_goals with_reducible rfl
        try simp only[Act.put,List.getElem_toArray,List.getElem_cons_succ,List.getElem_cons_zero,List.setIfInBounds_toArray,List.set_cons_zero,List.set_cons_succ]
        refine wpAnyH_take (i:=20) (v:=?_) rfl (by kernel_rfl) (by kernel_rfl) (by kernel_rfl) (fun _ _ _ h=>h) (Or.inl ⟨by kernel_rfl,?_⟩) (by assumption) ?_
        rotate_left
        · intro w hSw
          rw[hS3]at hSw
          obtain⟨q0,q1,q2,q3,q4,q5⟩:=hSw
          go_simp
          all_goals with_reducible rfl
        try simp only[Act.put,List.getElem_toArray,List.getElem_cons_succ,List.getElem_cons_zero,List.setIfInBounds_toArray,List.set_cons_zero,List.set_cons_succ]
        refine wpAnyH_take (i:=21) (v:=?_) rfl (by kernel_rfl) (by kernel_rfl) (by kernel_rfl) (fun _ _ _ h=>h) (Or.inl ⟨by kernel_rfl,?_⟩) (by assumption) ?_
        rotate_left
        · intro w hSw
          rw[hS3]at hSw
          obtain⟨q0,q1,q2,q3,q4,q5⟩:=hSw
          go_simp
          all_goals with_reducible rfl
        try simp only[Act.put,List.getElem_toArray,List.getElem_cons_succ,List.getElem_cons_zero,List.setIfInBounds_toArray,List.set_cons_zero,List.set_cons_succ]
        refine wpAnyH_take (i:=22) (v:=?_) rfl (by kernel_rfl) (by kernel_rfl) (by kernel_rfl) (fun _ _ _ h=>h) (Or.inl ⟨by kernel_rfl,?_⟩) (by assumption) ?_
        rotate_left
        · intro w hSw
          rw[hS3]at hSw
          obtain⟨q0,q1,q2,q3,q4,q5⟩:=hSw
          go_simp
          all_goals with_reducible rfl
        try simp only[Act.put,List.getElem_toArray,List.getElem_cons_succ,List.getElem_cons_zero,List.setIfInBounds_toArray,List.set_cons_zero,List.set_cons_succ]
        refine wpAnyH_take (i:=23) (v:=?_) rfl (by kernel_rfl) (by kernel_rfl) (by kernel_rfl) (fun _ _ _ h=>h) (Or.inl ⟨by kernel_rfl,?_⟩) (by assumption) ?_
        rotate_left
        · intro w hSw
          rw[hS3]at hSw
          obtain⟨q0,q1,q2,q3,q4,q5⟩:=hSw
          go_simp
          all_goals with_reducible rfl
        try simp only[Act.put,List.getElem_toArray,List.getElem_cons_succ,List.getElem_cons_zero,List.setIfInBounds_toArray,List.set_cons_zero,List.set_cons_succ]
        refine wpAnyH_take (i:=24) (v:=?_) rfl (by kernel_rfl) (by kernel_rfl) (by kernel_rfl) (fun _ _ _ h=>h) (Or.inl ⟨by kernel_rfl,?_⟩) (by assumption) ?_
        rotate_left
        · intro w hSw
          rw[hS3]at hSw
          obtain⟨q0,q1,q2,q3,q4,q5⟩:=hSw
          go_simp
          all_goals with_reducible rfl
        try simp only[Act.put,List.getElem_toArray,List.getElem_cons_succ,List.getElem_cons_zero,List.setIfInBounds_toArray,List.set_cons_zero,List.set_cons_succ]
        refine wpAnyH_ready (rs:=[25]) (by kernel_rfl) (by simp) ?_
        refine AllReadyH.cons rfl (fun K hK=>?_) (AllReadyH.nil)
        rw[if_pos (by rfl)]
        go_simp
        go_wp2_with fail
        refine(HAM1 _ (kqt HB.out (kqt hbX hb3))).mono ?_
        rintro _ w6 ⟨rfl,hb6'⟩
        have hb6:Below X.heap.size X w6:=kqt hb3 hb6'
        refine hK.out _ _ (HS3.out _ hb6) (fun hHeld=>?_)
        clear hK K
        try simp only[Act.put,List.getElem_toArray,List.getElem_cons_succ,List.getElem_cons_zero,List.setIfInBounds_toArray,List.set_cons_zero,List.set_cons_succ]
        refine wpAnyH_take (i:=26) (v:=?_) rfl (by kernel_rfl) (by kernel_rfl) (by kernel_rfl) (fun _ _ _ h=>h) (Or.inl ⟨by kernel_rfl,?_⟩) (by assumption) ?_
        rotate_left
        · intro w hSw
          rw[hS3]at hSw
          obtain⟨q0,q1,q2,q3,q4,q5⟩:=hSw
          go_simp
          all_goals with_reducible rfl
        try simp only[Act.put,List.getElem_toArray,List.getElem_cons_succ,List.getElem_cons_zero,List.setIfInBounds_toArray,List.set_cons_zero,List.set_cons_succ]
        refine wpAnyH_take (i:=27) (v:=?_) rfl (by kernel_rfl) (by kernel_rfl) (by kernel_rfl) (fun _ _ _ h=>h) (Or.inl ⟨by kernel_rfl,?_⟩) (by assumption) ?_
        rotate_left
        · intro w hSw
          rw[hS3]at hSw
          obtain⟨q0,q1,q2,q3,q4,q5⟩:=hSw
          go_simp
          all_goals with_reducible rfl
        try simp only[Act.put,List.getElem_toArray,List.getElem_cons_succ,List.getElem_cons_zero,List.setIfInBounds_toArray,List.set_cons_zero,List.set_cons_succ]
        refine wpAnyH_done (by kernel_rfl) ?_ _
        clear hHeld
        have hS6:=HS3.out w6 hb6
        rw[hS3]at hS6
        obtain⟨x0,x1,x2,x3,x4,x5⟩:=hS6
        clear hS3 HS3
        have hbw6:=kqt HB.out (kqt hbX hb6)
        have HST:=al_step (y:=y) HD.out
        have hf1:=HF1.out.1
        have hf2:=HF1.out.2
        have HNX:Hid (_∧_):=HST
        clear HST hf1 hf2
        go_wp2_with fail
        go_roundw
        case rel=>
         refine⟨k+1,_,_,by omega,by go_num,rfl,rfl,hbw6,?_⟩
         show _∧_
         rw[HTK.out]
         have h:=HNX.out
         have hf1:=HF1.out.1
         have hf2:=HF1.out.2
         simpa[hf1,hf2]using h
        case measure=>simp[intOf];omega
    · have i1:¬(k:Int)<(n:Int):=by omega
      have hD:=HD.out
      rw[List.take_of_length_le (by have:=HN.out;omega)]at hD
      have ha1:a1=(pb && !fb):=by
       rw[HAL.out,Bool.eq_iff_iff,auAl_iff,Bool.and_eq_true,hD.1,Bool.not_eq_true',←Bool.not_eq_true,hD.2]
       constructor
       · rintro⟨h1,h2⟩;exact⟨h2,fun⟨p,hp,h3⟩=>h1 p hp h3⟩
       · rintro⟨h1,h2⟩;exact⟨fun p hp h3=>h2 ⟨p,hp,h3⟩,h1⟩
      have z0:wr.cell? ⟨w3.heap.size,0,none⟩=some (.bool a1):=(HB1.out wr HB.out).cell 0
      clear hD HD
      cases pb<;>cases fb
      all_goals
       simp only[Bool.true_and,Bool.false_and,Bool.not_true,Bool.not_false,Bool.and_false,Bool.and_true]at ha1
       rw[ha1]at z0
       go_wp2_with fail
       go_ret
       exact⟨rfl,kqt hbV hbr⟩
 · obtain⟨e1,he1⟩:=ev_nn h1
   rw[he1]
   clear h1 he1
   go_wp2_with fail
   go_ret
   exact⟨rfl,kqt hbV (kqt hb3 kqx)⟩
end Go.Proofs.YtipcngglmebiiaaGreatDoor
