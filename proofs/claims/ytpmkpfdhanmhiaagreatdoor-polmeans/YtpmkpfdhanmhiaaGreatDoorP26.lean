import Derived.Test.YtpmkpfdhanmhiaaGreatDoorP18
import Derived.Test.YtpmkpfdhanmhiaaGreatDoorP19
import Derived.Test.YtpmkpfdhanmhiaaGreatDoorP12
import Derived.Test.YtpmkpfdhanmhiaaGreatDoorP13
set_option linter.unusedVariables false
set_option maxHeartbeats 12000000
namespace Go.Proofs.YtpmkpfdhanmhiaaGreatDoor
open Go.RowKit
set_option linter.unusedSimpArgs false
set_option maxRecDepth 100000
theorem innP_any (es:List En)(p:Option Addr)(c:Nat)(a b:Ui)(w:World)(hl:EL w p es)(ha:UOk a)(hb:UOk b)(hs:stf es=0):
 Calls Tryz.prog 21 #[.slice p es.length c,.agg #[.string a.t,.string a.i],.agg #[.string b.t,.string b.i]] w fun e w'=>(∃r:Bool,e= .returned (.tuple #[.bool r,.nilIface])∧Hid (r=true↔Inn es a b))∧Below w.heap.size w w':=by
 refine(in_any es p c a b w hl ha hb).mono ?_
 rintro e w' ⟨h,hb⟩
 rcases h with⟨_,r,h1,h2⟩ | ⟨h,_⟩
 · exact⟨⟨r,h1,h2⟩,hb⟩
 · exact absurd hs h
theorem str_ne {a b:ByteArray}(h:¬a=b):(a.toList == b.toList)=false:=by
 have:¬a.toList=b.toList:=fun h1=>h (bytes_inj (by simpa only[ByteArray.toList_eq]using h1))
 simpa using this
section
variable (es:List En) (ps:Option Addr) (cs:Nat) (s:Sco) (u:Ui) (w:World) (hl:EL w ps es) (hs:UOk s.u) (hu:UOk u) (h0:stf es=0)
include hl hs hu h0
def scvP (s:Sco):Value:=.agg #[.int .i64 s.op,.string s.ty,.string s.u.t,.string s.u.i]
theorem sfits_any:
 Calls Tryz.prog 8 #[.slice ps es.length cs,scvP s,.agg #[.string u.t,.string u.i]] w fun e w'=>e= .returned (.bool (fitC es s u))∧Below w.heap.size w w':=by
 obtain⟨V,hV⟩:∃V,V=(w.alloc (.cells #[.int .i64 s.op,.string s.ty,.string s.u.t,.string s.u.i] 26)).alloc (.cells #[.string u.t,.string u.i] 24):=⟨_,rfl⟩
 have hbV:Below w.heap.size w V:=by rw[hV];exact kqx
 have HI:=fun W (hW:Below V.heap.size V W)=>innP_any es ps cs u s.u W (hl.up (kqt hbV hW)) hu hs h0
 clear hl hs hu h0
 obtain⟨op,ty,v⟩:=s
 obtain⟨vt,vi⟩:=v
 obtain⟨ut,ui⟩:=u
 unfold scvP
 unfold fitC
 simp only at *
 by_cases h1:op=1
 · subst h1
   rw[if_pos rfl]
   clear HI hV hbV
   by_cases ht:ut=vt
   · subst ht
     by_cases hi:ui=vi
     · subst hi
       rw[decide_eq_true rfl]
       go_enter Tryz.func8,Tryz.ntmps8
       go_wp2
       go_ret
       exact⟨rfl,kqx⟩
     · have b2:=str_ne hi
       rw[decide_eq_false (fun h=>hi (by cases h;rfl))]
       clear hi
       go_enter Tryz.func8,Tryz.ntmps8
       go_wp2
       go_ret
       exact⟨rfl,kqx⟩
   · have b2:=str_ne ht
     rw[decide_eq_false (fun h=>ht (by cases h;rfl))]
     clear ht
     go_enter Tryz.func8,Tryz.ntmps8
     go_wp2
     go_ret
     exact⟨rfl,kqx⟩
 · have b1:(op == 1)=false:=by simpa using h1
   rw[if_neg h1]
   by_cases h3:op=3
   · subst h3
     rw[if_pos rfl]
     clear HI hV hbV h1 b1
     by_cases ht:ut=ty
     · subst ht
       rw[decide_eq_true rfl]
       go_enter Tryz.func8,Tryz.ntmps8
       go_wp2
       go_ret
       exact⟨rfl,kqx⟩
     · have b2:=str_ne ht
       rw[decide_eq_false ht]
       clear ht
       go_enter Tryz.func8,Tryz.ntmps8
       go_wp2
       go_ret
       exact⟨rfl,kqx⟩
   · have b3:(op == 3)=false:=by simpa using h3
     rw[if_neg h3]
     by_cases h24:op=2∨op=4
     · rw[if_pos h24]
       have HB:Hid (∀W,Below V.heap.size V W→Blk W w.heap.size #[.int .i64 op,.string ty,.string vt,.string vi] 26∧Blk W (w.heap.size+1) #[.string ut,.string ui] 24):=fun W hW=>by
        have k1:Blk V w.heap.size #[.int .i64 op,.string ty,.string vt,.string vi] 26:=by rw[hV];exact(Blk.new w _ _ rfl).up kqx
        have k2:Blk V (w.heap.size+1) #[.string ut,.string ui] 24:=by rw[hV];refine Blk.new (w.alloc _) _ _ ?_;simp
        exact⟨k1.up hW,k2.up hW⟩
       obtain⟨D,hD⟩:∃D,D=(by classical exact decide (Inn es ⟨ut,ui⟩ ⟨vt,vi⟩)):=⟨_,rfl⟩
       rw[←hD]
       have HF:Hid (∀r:Bool,(r=true↔Inn es ⟨ut,ui⟩ ⟨vt,vi⟩)→D=r):=fun r hr=>by
        classical
        rw[hD,Bool.eq_iff_iff,hr,decide_eq_true_iff]
       clear hD
       have hb2:(op == 2)=decide (op=2):=rfl
       have hb4:(op == 4)=true∨op=2:=by rcases h24 with h | h<;>simp[h]
       rcases h24 with rfl | rfl
       · clear hb2 hb4 b1 b3 h1 h3
         go_enter Tryz.func8,Tryz.ntmps8
         go_wp2_with fail
         rw[←hV]
         clear hV
         refine(HI _ (Below.refl _ _)).mono ?_
         rintro _ w1 ⟨⟨r,rfl,hr⟩,hb1⟩
         obtain rfl:=HF.out r hr.out
         obtain⟨k1,k2⟩:=HB.out _ hb1
         have x0:=k1.cell 0
         have l0:=k1.lt
         simp only[List.getElem?_toArray,List.getElem?_cons_zero,List.getElem?_cons_succ]at x0
         clear HI HF HB k1 k2
         cases D
         · go_wp2
           go_ret
           exact⟨rfl,kqt hbV hb1⟩
         · go_wp2
           go_ret
           exact⟨rfl,kqt hbV hb1⟩
       · clear hb2 hb4 b1 b3 h1 h3
         by_cases ht:ut=ty
         · subst ht
           go_enter Tryz.func8,Tryz.ntmps8
           go_wp2_with fail
           rw[←hV]
           clear hV
           refine(HI _ (Below.refl _ _)).mono ?_
           rintro _ w1 ⟨⟨r,rfl,hr⟩,hb1⟩
           obtain rfl:=HF.out r hr.out
           obtain⟨k1,k2⟩:=HB.out _ hb1
           have x0:=k1.cell 0
           have x1:=k1.cell 1
           have y0:=k2.cell 0
           have l0:=k1.lt
           have l1:=k2.lt
           simp only[List.getElem?_toArray,List.getElem?_cons_zero,List.getElem?_cons_succ]at x0 x1 y0
           clear HI HF HB k1 k2
           cases D
           · go_wp2
             go_ret
             exact⟨rfl,kqt hbV hb1⟩
           · go_wp2
             go_ret
             exact⟨by simp,kqt hbV hb1⟩
         · have b2:=str_ne ht
           have b5:decide (ut=ty)=false:=decide_eq_false ht
           rw[b5]
           clear ht b5
           go_enter Tryz.func8,Tryz.ntmps8
           go_wp2_with fail
           rw[←hV]
           clear hV
           refine(HI _ (Below.refl _ _)).mono ?_
           rintro _ w1 ⟨⟨r,rfl,hr⟩,hb1⟩
           obtain rfl:=HF.out r hr.out
           obtain⟨k1,k2⟩:=HB.out _ hb1
           have x0:=k1.cell 0
           have x1:=k1.cell 1
           have y0:=k2.cell 0
           have l0:=k1.lt
           have l1:=k2.lt
           simp only[List.getElem?_toArray,List.getElem?_cons_zero,List.getElem?_cons_succ]at x0 x1 y0
           clear HI HF HB k1 k2
           cases D
           · go_wp2
             go_ret
             exact⟨rfl,kqt hbV hb1⟩
           · go_wp2
             go_ret
             exact⟨rfl,kqt hbV hb1⟩
     · rw[if_neg h24]
       have b2:(op == 2)=false:=by have:¬op=2:=fun h=>h24 (.inl h);simpa using this
       have b4:(op == 4)=false:=by have:¬op=4:=fun h=>h24 (.inr h);simpa using this
       clear HI hV hbV h1 h3 h24
       go_enter Tryz.func8,Tryz.ntmps8
       go_wp2
       go_ret
       exact⟨rfl,kqx⟩
end
end Go.Proofs.YtpmkpfdhanmhiaaGreatDoor
