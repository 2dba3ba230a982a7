import Derived.Test.YtpmkpfdhanmhiaaGreatDoorShelfGrow
import Derived.Test.YtpmkpfdhanmhiaaGreatDoorP13
set_option linter.unusedVariables false
set_option maxHeartbeats 12000000
namespace Go.Proofs.YtpmkpfdhanmhiaaGreatDoor
open Go.RowKit Go.Shelf
set_option linter.unusedSimpArgs false
set_option maxRecDepth 100000
theorem growC_any (n:Nat)(w:World)(hn:n≤1099511627776):
 Calls Tryz.prog 25 #[.slice none 0 0,.int .i64 n] w fun e w'=>(∃v,e= .returned v∧ON w' w.heap.size v [])∧Below w.heap.size w w':=by
 by_cases h0:n=0
 · subst h0
   refine(Any8.slices_Grow_room Tryz.growN none 0 0 0 w (Nat.le_refl _) (by decide) (by decide) (Nat.le_refl _)).mono ?_
   rintro e w' ⟨rfl,rfl⟩
   exact⟨⟨_,rfl,⟨World.ownsRow_nil _ _ _ _,fun x hx=>by cases hx⟩⟩,Below.refl _ _⟩
 · obtain⟨i0,hi,hz0,hz1,hz2⟩:=info_parts Tryz.infoNode
   refine(Any8.slices_Grow_grow Tryz.growN i0 (.agg #[.int .i64 0,.int .i64 0,.string ⟨#[]⟩,.string ⟨#[]⟩]) hi hz0 (by omega) none 0 0 n [] w (Nat.le_refl _) (by omega) (by rw[hz2];omega) (by omega) (by simp) (fun _=>rfl) (fun a h=>by cases h)).mono ?_
   rintro e w' ⟨rfl,rfl⟩
   refine⟨⟨_,rfl,⟨?_,fun x hx=>by cases hx⟩⟩,?_⟩
   · have hge:=grownCap_ge w (0+n) 0 (Tryz.growN_ren.t 25)
     rw[Nat.zero_add]at hge
     refine⟨rfl,.inr ⟨w.heap.size,_,_,rfl,Nat.le_refl _,heap_alloc_new _ _,Nat.zero_le _,?_,?_,?_⟩⟩
     · exact grownCap_le_maxLen w (0+n) 0 _ (by unfold maxLen;omega)
     · simp only[Array.size_append,List.size_toArray,size_zeroCells,Value.cells,List.length_nil]
       simp
       omega
     · simp[ncells]
   · exact((Below.refl _ w).drew).alloc (Nat.le_refl _) _
theorem concatN_any (ls:List (List Nd))(hne:∀l∈ls,l≠[])(p:Option Addr)(c:Nat)(w:World)(hv:LL w p ls)(hl:(catL ls).length≤100000)(hn:ls.length≤100000):
 Calls Tryz.prog 15 #[.slice p ls.length c] w fun e w'=>KRetF w w' (catL ls) e∧Below w.heap.size w w':=by
 have HL:Hid (LL w p ls):=hv
 have HNE:Hid (∀l∈ls,l≠[]):=hne
 have HSZ:Hid ((catL ls).length≤100000):=hl
 clear hv hne hl
 go_enter Tryz.func15,Tryz.ntmps15
 go_wp2_with fail
 go_loopw [3,5,11] (fun sv _ iv wr=>∃(a r:List (List Nd)) (i m:Nat),Hid (ls=a++r)∧Hid (a.length=i)∧i≤ls.length∧iv= .int .i64 i∧sv= .int .i64 (m:Int)∧Hid (m=(catL a).length)∧m≤100000∧Below w.heap.size w wr) (fun _ _ iv _=>ls.length-(intOf iv).toNat)
 case atStart=>exact⟨[],ls,0,0,rfl,rfl,Nat.zero_le _,rfl,rfl,rfl,by omega,Below.refl _ _⟩
 case round=>
  rename World=>wr
  obtain⟨a,r,i,m,HD,HI,hik,rfl,rfl,HM,hm9,hbr⟩:=hrel
  cases r with
  | nil=>
    have hla:a=ls:=by have:=HD.out;rw[List.append_nil]at this;exact this.symm
    have hil:i=ls.length:=by rw[←HI.out,hla]
    have i3:¬(i:Int)<(ls.length:Int):=by omega
    clear hla hil HM HD HI
    go_wp2_with fail
    refine(growC_any m wr (by omega)).mono ?_
    rintro _ w1 ⟨⟨v1,rfl,hO1⟩,hb1⟩
    obtain⟨q1,c1,rfl⟩:=hO1.any
    have HO1:Hid (ON w1 wr.heap.size (.slice q1 0 c1) []):=hO1
    have hb01:=kqt hbr hb1
    have HW:Hid (w.heap.size≤wr.heap.size):=hbr.size
    clear hO1
    rw[show([]:List Nd).length=0 from rfl]
    go_wp2_with fail
    go_loopw [6,8,27] (fun ov _ iv wr2=>∃(a r:List (List Nd)) (i:Nat) (qo:Option Addr) (mo co:Nat),Hid (ls=a++r)∧Hid (a.length=i)∧i≤ls.length∧iv= .int .i64 i∧ov= .slice qo mo co∧Hid (mo=(catL a).length)∧Hid (ON wr2 wr.heap.size (.slice qo mo co) (catL a))∧Below wr.heap.size wr wr2) (fun _ _ iv _=>ls.length-(intOf iv).toNat)
    case atStart=>exact⟨[],ls,0,_,_,_,rfl,rfl,Nat.zero_le _,rfl,rfl,rfl,HO1,hb1⟩
    case round=>
     rename World=>w2
     obtain⟨a,r,i,qo,mo,co,HD,HI,hik,rfl,rfl,HMO,HO,hb2⟩:=hrel
     have hbr2:=kqt hbr hb2
     cases r with
     | nil=>
       have hla:a=ls:=by have:=HD.out;rw[List.append_nil]at this;exact this.symm
       have hil:i=ls.length:=by rw[←HI.out,hla]
       have i3:¬(i:Int)<(ls.length:Int):=by omega
       have HR:Hid (KRetF w w2 (catL ls) (.returned (.slice qo mo co))):=by
        have h:=HO.out
        rw[HMO.out]at h
        refine⟨qo,co,by rw[HMO.out,hla],?_,fun b o e=>by subst e;exact Nat.le_trans HW.out (ownP_lt HO.out.1 rfl).2⟩
        rw[←hla]
        exact⟨h.nl,h.cap.1,h.cap.2⟩
       clear hla hil HMO HO HD HI
       go_wp2
       go_ret
       exact⟨HR.out,hbr2⟩
     | cons l r=>
       have hlt:i<ls.length:=by rw[←HI.out,HD.out];simp
       have i3:(i:Int)<(ls.length:Int):=by omega
       have hlr:=HL.out.up hbr2
       rw[HD.out]at hlr
       obtain⟨b1,o1,q1',c1',hp1,hb1',x0,hn1,hle1,hcm1⟩:=hlr.here
       rw[HI.out]at x0
       subst hp1
       have hlne:l≠[]:=HNE.out l (by rw[HD.out];simp)
       obtain⟨b2,o2,hq1⟩:∃b o,q1'=some ⟨b,o,none⟩:=by
        rcases hn1 with h | ⟨b,o,h,_⟩
        · exact absurd h hlne
        · exact⟨b,o,h⟩
       subst hq1
       have hsz:(catL a).length+l.length≤100000:=by
        have:=HSZ.out
        rw[HD.out,catL_app]at this
        simp only[catL,List.length_append]at this
        omega
       have HD2:Hid (ls=(a++[l])++r):=by show _=_;rw[HD.out];simp
       have HI2:Hid ((a++[l]).length=i+1):=by show _=_;rw[List.length_append,HI.out];rfl
       have HE:Hid (catL a++l=catL (a++[l])):=by show _=_;rw[catL_app];simp[catL]
       have HN1:Hid (NL w2 (some ⟨b2,o2,none⟩) l):=hn1
       have hgb:∀g,(Value.slice qo mo co).ownBlock=some g→wr.heap.size≤g:=fun g hg=>(ownP_lt HO.out.1 hg).2
       clear hlr hn1 hlne HD HI
       go_wp2_with (first | (at_builtin;refine Hid.out ?_))
       show wpList _ _ _ _ _ _
       refine append_nodesG w2 rfl (.tmp 31) (.tmp 32) rfl wr.heap.size (.slice qo mo co) (catL a) rfl HO.out l l.length rfl b2 o2 c1' HN1.out rfl (by omega) hb2.size ?_
       intro v5 w5 hO5 hg5 ha5
       rw[HE.out]at hO5
       have hb5:Below wr.heap.size wr w5:=hb2.trans (grown_belowG hg5 hgb hb2.size)
       obtain⟨q5,c5,rfl⟩:=hO5.any
       obtain⟨M5,hM5⟩:∃M,M=(catL (a++[l])).length:=⟨_,rfl⟩
       have HM5:Hid (M5=(catL (a++[l])).length):=hM5
       have HO5:Hid (ON w5 wr.heap.size (.slice q5 M5 c5) (catL (a++[l]))):=by rw[hM5];exact hO5
       rw[←hM5]
       clear hO5 hM5 HO HMO
       go_wp2_with fail
       go_roundw
       case rel=>exact⟨a++[l],r,i+1,q5,M5,c5,HD2,HI2,by omega,by go_num,rfl,HM5,HO5,hb5⟩
       case measure=>simp[intOf];omega
  | cons l r=>
    have hlt:i<ls.length:=by rw[←HI.out,HD.out];simp
    have i3:(i:Int)<(ls.length:Int):=by omega
    have hlr:=HL.out.up hbr
    rw[HD.out]at hlr
    obtain⟨b1,o1,q1,c1,hp1,hb1,x0,hn1,hle1,hcm1⟩:=hlr.here
    rw[HI.out]at x0
    subst hp1
    have hsz:(catL a).length+l.length≤100000:=by
     have:=HSZ.out
     rw[HD.out,catL_app]at this
     simp only[catL,List.length_append]at this
     omega
    have HD2:Hid (ls=(a++[l])++r):=by show _=_;rw[HD.out];simp
    have HI2:Hid ((a++[l]).length=i+1):=by show _=_;rw[List.length_append,HI.out];rfl
    have HM2:Hid (m+l.length=(catL (a++[l])).length):=by show _=_;rw[catL_app,HM.out];simp[catL]
    have hml:m+l.length≤100000:=by have:=HM.out;omega
    have i4:¬((m:Int)+(l.length:Int))<0:=by omega
    generalize l.length=L at *
    clear hlr hn1 HD HI HM hsz
    go_wp2_with fail
    go_roundw
    case rel=>exact⟨a++[l],r,i+1,m+L,HD2,HI2,by omega,by go_num,by go_num,HM2,hml,hbr⟩
    case measure=>simp[intOf];omega
end Go.Proofs.YtpmkpfdhanmhiaaGreatDoor
