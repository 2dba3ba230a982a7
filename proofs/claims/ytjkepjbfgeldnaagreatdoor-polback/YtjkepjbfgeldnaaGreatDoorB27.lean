import Derived.Test.YtjkepjbfgeldnaaGreatDoorB25
import Derived.Test.YtjkepjbfgeldnaaGreatDoorB11
import Derived.Deep.RegionHeld
set_option linter.unusedVariables false
set_option maxHeartbeats 12000000
namespace Go.Proofs.YtjkepjbfgeldnaaGreatDoor
open Go.RowKit
set_option linter.unusedSimpArgs false
set_option maxRecDepth 100000
theorem sameB {a:List Nd}{w:World}{p q:Option Addr}{c d n:Nat}(ha:NL w p a)(hb:NL w q a)(hla:a.length≤maxLen)(hn:a.length=n):Calls Tryz.prog 21 #[.slice p n c,.slice q n d] w fun e w'=>e= .returned (.bool true)∧Below w.heap.size w w':=by
 subst hn
 refine(sameNodes_any a a p q c d w ha hb hla hla).mono ?_
 rintro _ _ ⟨rfl,n,rfl⟩
 exact⟨by rw[(sameNd_iff _ _).2 rfl],⟨rfl,rfl,rfl,Nat.le_refl _,fun _ _=>rfl⟩⟩
theorem samePol_any (p:Po)(pc pd:Option Addr)(cc cd:Nat)(w:World)(h:PoA w p pc cc)(k:PoA w p pd cd):
 Calls Tryz.prog 7 #[poV p pc cc,poV p pd cd] w fun e w'=>e= .returned (.bool true)∧Below w.heap.size w w':=by
 obtain⟨V,hV⟩:∃V,V=(w.alloc (.cells (poC p pc cc) 28)).alloc (.cells (poC p pd cd) 28):=⟨_,rfl⟩
 have hbV:Below w.heap.size w V:=by rw[hV];exact kqx
 have HA:Hid (∀w',Below V.heap.size V w'→Blk w' w.heap.size (poC p pc cc) 28):=fun w' hk=>by
  have hb:Blk V w.heap.size (poC p pc cc) 28:=by rw[hV];exact(Blk.new w _ _ rfl).up kqx
  exact hb.up hk
 have HB:Hid (∀w',Below V.heap.size V w'→Blk w' (w.heap.size+1) (poC p pd cd) 28):=fun w' hk=>by
  have hb:Blk V (w.heap.size+1) (poC p pd cd) 28:=by rw[hV];refine Blk.new _ _ _ ?_;simp
  exact hb.up hk
 have HPC:Hid (CdL w pc p.cs∧CdL w pd p.cs):=⟨h.cl,k.cl⟩
 have hcm:p.cs.length≤maxLen:=Nat.le_trans h.le h.cm
 obtain⟨x0,x1,x2,x3,x4,x5,x6,x7,x8,x9,x10,x11,x12,x13,x14⟩:=po_cells (HA.out V (Below.refl _ _))
 obtain⟨y0,y1,y2,y3,y4,y5,y6,y7,y8,y9,y10,y11,y12,y13,y14⟩:=po_cells (HB.out V (Below.refl _ _))
 unfold poC at hV
 unfold poV
 clear h k
 go_enter Tryz.func7,Tryz.ntmps7
 go_wp2_with fail
 rw[←hV]
 clear hV x0 x1 x2 x3 x4 x5 x6 x7 x8 x9 x10 x11 x12 x13 x14 y0 y1 y2 y3 y4 y5 y6 y7 y8 y9 y10 y11 y12 y13 y14
 go_loopw [5] (fun i wr=>∃k:Nat,k≤p.cs.length∧i= .int .i64 k∧Below V.heap.size V wr) (fun i _=>p.cs.length-(intOf i).toNat)
 case atStart=>exact⟨0,Nat.zero_le _,rfl,Below.refl _ _⟩
 case round=>
  obtain⟨k,hk,rfl,hb⟩:=hrel
  have hbw:=kqt hbV hb
  obtain⟨_,_,_,_,_,_,_,_,_,_,_,_,_,_,x14⟩:=po_cells (HA.out wr hb)
  obtain⟨_,_,_,_,_,_,_,_,_,_,_,_,_,_,y14⟩:=po_cells (HB.out wr hb)
  by_cases hlt:k<p.cs.length
  · have i1:(k:Int)<(p.cs.length:Int):=by omega
    obtain⟨b1,o1,e1,f1,hp1,hb1,ha1,u0',u1'⟩:=HPC.out.1.at hlt
    obtain⟨b2,o2,e2,f2,hp2,hb2,ha2,v0',v1'⟩:=HPC.out.2.at hlt
    have u0:=(hbw.cell (p:=⟨b1,o1+k*2,none⟩) hb1).trans u0'
    have u1:=(hbw.cell (p:=⟨b1,o1+k*2+1,none⟩) hb1).trans u1'
    have v0:=(hbw.cell (p:=⟨b2,o2+k*2,none⟩) hb2).trans v0'
    have v1:=(hbw.cell (p:=⟨b2,o2+k*2+1,none⟩) hb2).trans v1'
    have g1:b1<wr.heap.size:=Nat.lt_of_lt_of_le hb1 hbw.size
    have g2:b2<wr.heap.size:=Nat.lt_of_lt_of_le hb2 hbw.size
    have hkm:(k:Int)≤9223372036854775806:=by unfold maxLen at hcm;omega
    have HS:=fun W (hW:Below wr.heap.size wr W)=>sameB (w:=W) (c:=f1) (d:=f2) (ha1.up (kqt hbw hW)).nl (ha2.up (kqt hbw hW)).nl (Nat.le_trans ha1.le ha1.cm) rfl
    have HPV:Hid (∀w',Below wr.heap.size wr w'→w'.cell? ⟨w.heap.size,14,none⟩=some (.slice (some ⟨b1,o1,none⟩) p.cs.length cc)∧w'.cell? ⟨w.heap.size+1,14,none⟩=some (.slice (some ⟨b2,o2,none⟩) p.cs.length cd)∧w'.cell? ⟨b1,o1+k*2,none⟩=some (.bool p.cs[k].un)∧w'.cell? ⟨b2,o2+k*2,none⟩=some (.bool p.cs[k].un)):=fun w' hw=>by
     obtain⟨_,_,_,_,_,_,_,_,_,_,_,_,_,_,a14⟩:=po_cells (HA.out w' (kqt hb hw))
     obtain⟨_,_,_,_,_,_,_,_,_,_,_,_,_,_,b14⟩:=po_cells (HB.out w' (kqt hb hw))
     rw[hp1]at a14
     rw[hp2]at b14
     exact⟨a14,b14,(hw.cell (p:=⟨b1,o1+k*2,none⟩) g1).trans u0,(hw.cell (p:=⟨b2,o2+k*2,none⟩) g2).trans v0⟩
    have HPQ:Hid (∀w',Below wr.heap.size wr w'→w'.cell? ⟨w.heap.size,14,none⟩=some (.slice (some ⟨b1,o1,none⟩) p.cs.length cc)∧w'.cell? ⟨w.heap.size+1,14,none⟩=some (.slice (some ⟨b2,o2,none⟩) p.cs.length cd)∧w'.cell? ⟨b1,o1+k*2+1,none⟩=some (.slice e1 p.cs[k].ex.length f1)∧w'.cell? ⟨b2,o2+k*2+1,none⟩=some (.slice e2 p.cs[k].ex.length f2)):=fun w' hw=>⟨(HPV.out w' hw).1,(HPV.out w' hw).2.1,(hw.cell (p:=⟨b1,o1+k*2+1,none⟩) g1).trans u1,(hw.cell (p:=⟨b2,o2+k*2+1,none⟩) g2).trans v1⟩
    subst hp1 hp2
    clear u0' u1' v0' v1' ha1 ha2
    generalize p.cs[k].ex.length=n at *
    generalize p.cs[k].un=un at *
    go_wp2_with fail
    go_region_held (fun w'=>w'.cell? ⟨w.heap.size,14,none⟩=some (.slice (some ⟨b1,o1,none⟩) p.cs.length cc)∧w'.cell? ⟨w.heap.size+1,14,none⟩=some (.slice (some ⟨b2,o2,none⟩) p.cs.length cd)∧w'.cell? ⟨b1,o1+k*2+1,none⟩=some (.slice e1 n f1)∧w'.cell? ⟨b2,o2+k*2+1,none⟩=some (.slice e2 n f2)) (first | exact HPQ.out _ hb3 | exact HPQ.out _ kqx) (first
     | (go_at_call 21
        refine(HS _ kqx).mono ?_
        rintro _ w3 ⟨rfl,hb3'⟩
        have hb3:Below wr.heap.size wr w3:=kqt kqx hb3'))
    clear HS x14 y14 u0 u1 v0 v1
    obtain⟨x14,y14,u0,v0⟩:=HPV.out w3 hb3
    have hb3':=kqt hb hb3
    cases un
    all_goals
     go_wp2
     go_region
     go_wp2
     go_roundw
     case rel=>exact⟨k+1,by omega,by go_num,kqt hb3' kqx⟩
     case measure=>simp[intOf];omega
  · have i1:¬(k:Int)<(p.cs.length:Int):=by omega
    go_wp2
    go_ret
    exact⟨rfl,hbw⟩
end Go.Proofs.YtjkepjbfgeldnaaGreatDoor
