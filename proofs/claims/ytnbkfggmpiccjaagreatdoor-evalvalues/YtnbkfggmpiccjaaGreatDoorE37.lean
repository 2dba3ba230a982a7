import Derived.Test.YtnbkfggmpiccjaaGreatDoorE3
import Derived.Test.YtnbkfggmpiccjaaGreatDoorE27
import Derived.Test.YtnbkfggmpiccjaaGreatDoorE23
import Derived.Test.YtnbkfggmpiccjaaGreatDoorE22
set_option linter.unusedVariables false
set_option maxHeartbeats 12000000
namespace Go.Proofs.YtnbkfggmpiccjaaGreatDoor
open Go.RowKit
theorem rfault_at' {names:List ByteArray}{vs:List (List Nd)}(hl:names.length=vs.length)(k:Nat)(hk:k<names.length):
 rfault (names.take k) ((names.zip vs).drop k)=if nfault names[k].data.toList≠0 then nfault names[k].data.toList else if seenB (names.take k) names[k]then 6 else if vfault (vs[k]'(by omega))≠0 then vfault (vs[k]'(by omega))else rfault (names.take (k+1)) ((names.zip vs).drop (k+1)):=by
 have hz:k<(names.zip vs).length:=by simp;omega
 rw[List.drop_eq_getElem_cons hz,List.take_succ_eq_append_getElem hk]
 simp only[rfault,List.getElem_zip]
theorem seen_at {names:List ByteArray}{k t:Nat}{s:ByteArray}(hk:k≤names.length)(ht:t<k)(e:names[t]'(by omega)=s):seenB (names.take k) s=true:=by
 rw[seenB_iff,←e]
 exact List.mem_take_iff_getElem.2 ⟨t,by omega,rfl⟩
theorem unseen_at {names:List ByteArray}{k:Nat}{s:ByteArray}(h:∀(t:Nat) (ht:t<names.length),t<k→names[t]≠s):seenB (names.take k) s=false:=by
 cases e:seenB (names.take k) s
 · rfl
 · obtain⟨t,ht,e2⟩:=List.mem_take_iff_getElem.1 ((seenB_iff _ _).1 e)
   exact absurd e2 (h t (by omega) (by omega))
theorem isVal_past' {v:List Nd}(h:vfault v=0):v.length≤200:=(isVal_past h).1
set_option maxRecDepth 100000 in
theorem refRec_bad (names:List ByteArray)(vs:List (List Nd))(p q:Option Addr)(c d:Nat)(w:World)(hn:TL w p names)(hv:LL w q vs)(hl:names.length=vs.length)(hsz:∀t∈names,t.size≤maxLen)(hle:names.length≤4294967296)(h:rfault [] (names.zip vs)≠0):
 Calls Tryz.prog 29 #[.slice p names.length c,.slice q vs.length d] w fun e w'=>e= .returned (.tuple #[.slice none 0 0,.int .i64 (rfault [] (names.zip vs))])∧Below w.heap.size w w':=by
 have i0:((names.length:Int) != (vs.length:Int))=false:=by simp[hl]
 have HL:Hid (names.length=vs.length):=hl
 have HSZ:Hid (∀t∈names,t.size≤maxLen):=hsz
 have HZ:Hid (rfault (names.take 0) ((names.zip vs).drop 0)=rfault [] (names.zip vs)):=rfl
 have HNZ:Hid (rfault [] (names.zip vs)≠0):=h
 generalize rfault [] (names.zip vs)=Z at *
 clear h hsz hl
 go_enter Tryz.func29,Tryz.ntmps29
 go_wp2
 go_loopw [6,7] (fun sz i wr=>∃k n:Nat,k≤names.length∧n≤401∧sz= .int .i64 n∧i= .int .i64 k∧Hid (rfault (names.take k) ((names.zip vs).drop k)=Z)∧Below w.heap.size w wr) (fun _ i _=>names.length-(intOf i).toNat)
 case atStart=>exact⟨0,1,Nat.zero_le _,by omega,rfl,rfl,HZ,Below.refl _ _⟩
 case round=>
  obtain⟨k,n,hk,hn4,rfl,rfl,HR,hb⟩:=hrel
  by_cases hlt:k<names.length
  · have i1:(k:Int)<(names.length:Int):=by omega
    have hlt2:k<vs.length:=by rw[←HL.out];exact hlt
    have i2:(k:Int)<(vs.length:Int):=by omega
    obtain⟨nb,no,rfl,hnb,nc⟩:=(hn.up hb).at hlt
    obtain⟨vb,vo,q',c',rfl,hvb,vc,hnl,h1,h2⟩:=(hv.up hb).at hlt2
    have hs:names[k].size≤maxLen:=HSZ.out _ (List.getElem_mem _)
    have HRA:Hid (_=Z):=(rfault_at' HL.out k hlt).symm.trans HR.out
    have C1:=nameFault_any names[k] wr hs
    have C2:=fun w' (hb':Below wr.heap.size wr w')=>valueFault_any vs[k] q' c' w' (hnl.up hb') h1 h2
    clear HR
    generalize names[k]=s at *
    generalize vs[k]=v at *
    have hvw:=hnl
    clear hnl
    by_cases hn0:nfault s.data.toList=0
    · rw[hn0]at C1
      have HRB:Hid ((if seenB (names.take k) s then 6 else if vfault v≠0 then vfault v else rfault (names.take (k+1)) ((names.zip vs).drop (k+1)))=Z):=by
       have:=HRA.out
       rw[if_neg (by rw[hn0];simp)]at this
       exact this
      clear hn0 HRA
      go_wp2_with fail
      refine C1.mono ?_
      rintro e w1 ⟨rfl,rfl⟩
      clear C1
      go_wp2
      go_loopw [9] (fun j wr2=>∃t:Nat,t≤k∧j= .int .i64 t∧Hid (∀(t':Nat) (ht:t'<names.length),t'<t→names[t']≠s)∧∃m,wr2=w1.drewN m) (fun j _=>k-(intOf j).toNat)
      case atStart=>exact⟨0,Nat.zero_le _,rfl,(fun t' _ h=>absurd h (by omega):∀(t':Nat) (ht:t'<names.length),t'<0→names[t']≠s),0,rfl⟩
      case round=>
       obtain⟨t,ht,rfl,HA,m,rfl⟩:=hrel
       by_cases htk:t<k
       · have i3:(t:Int)<(k:Int):=by omega
         have htn:t<names.length:=by omega
         have i4:(t:Int)<(names.length:Int):=by omega
         obtain⟨nb',no',e1,hnb',tc⟩:=(hn.up hb).at htn
         obtain⟨rfl,rfl⟩:nb=nb'∧no=no':=by simpa using e1
         by_cases e:names[t]=s
         · have HS6:Hid (6=Z):=by
            have:=HRB.out
            rw[if_pos (seen_at hk htk e)]at this
            exact this
           rw[e]at tc
           have hbm:Below w.heap.size w (w1.drewN m):=⟨hb.os,hb.tape,hb.output,hb.size,hb.block⟩
           clear HRB HA e e1
           go_wp2
           go_quiet (fail)
           go_wp2
           go_ret2
           exact⟨by rw[←HS6.out];rfl,⟨hb.os,hb.tape,hb.output,hb.size,hb.block⟩⟩
         · have HA2:Hid (∀(t':Nat) (ht:t'<names.length),t'<t+1→names[t']≠s):=fun t' h1' h2'=>by
            by_cases e2:t'=t
            · subst e2;exact e
            · exact HA.out t' h1' (by omega)
           generalize names[t]=u at *
           have hne:(u.toList == s.toList)=false:=by
            rw[beq_eq_false_iff_ne]
            exact fun h=>e (bytes_inj (by simpa only[ByteArray.toList_eq]using h))
           clear HA e e1
           go_wp2
           go_quiet (fail)
           go_wp2
           go_roundw
           case rel=>exact⟨t+1,by omega,by go_num,HA2,_,by first | rfl | (rw[World.drewN_drewN])⟩
           case measure=>simp[intOf];omega
       · have i3:¬(t:Int)<(k:Int):=by omega
         obtain rfl:t=k:=by omega
         have HRC:Hid ((if vfault v≠0 then vfault v else rfault (names.take (t+1)) ((names.zip vs).drop (t+1)))=Z):=by
          have:=HRB.out
          rw[unseen_at HA.out]at this
          exact this
         have hbm:Below w1.heap.size w1 (w1.drewN m):=⟨rfl,rfl,rfl,Nat.le_refl _,fun _ _=>rfl⟩
         have C3:=C2 _ hbm
         have hb1:=hb.trans (hbm.mono hb.size)
         clear HA HRB C2
         by_cases hv0:vfault v=0
         · rw[hv0]at C3
           have HR2:Hid (rfault (names.take (t+1)) ((names.zip vs).drop (t+1))=Z):=by
            have:=HRC.out
            rw[if_neg (by rw[hv0];simp)]at this
            exact this
           have hvl:=(isVal_past' hv0)
           clear HRC hv0
           by_cases hn2:n≤200
           · have i5:(n:Int)≤200:=by omega
             go_wp2_with fail
             refine C3.mono ?_
             rintro e w2 ⟨rfl,hb2'⟩
             have hb2:=hb1.trans (hb2'.mono hb1.size)
             have vc2:=(hb2'.cell (p:=⟨vb,vo+t,none⟩) hvb).trans vc
             go_wp2
             go_roundw
             case rel=>exact⟨t+1,n+(1+v.length),by omega,by omega,by go_num,by go_num,HR2,hb2⟩
             case measure=>simp[intOf];omega
           · have i5:¬(n:Int)≤200:=by omega
             go_wp2_with fail
             refine C3.mono ?_
             rintro e w2 ⟨rfl,hb2'⟩
             have hb2:=hb1.trans (hb2'.mono hb1.size)
             go_wp2
             go_roundw
             case rel=>exact⟨t+1,n,by omega,by omega,rfl,by go_num,HR2,hb2⟩
             case measure=>simp[intOf];omega
         · have HE:Hid (vfault v=Z):=by
            have:=HRC.out
            rw[if_pos hv0]at this
            exact this
           have hz:(vfault v != 0)=true:=by simpa using hv0
           generalize vfault v=z at *
           clear HRC hv0
           go_wp2_with fail
           refine C3.mono ?_
           rintro e w2 ⟨rfl,hb2'⟩
           have hb2:=hb1.trans (hb2'.mono hb1.size)
           go_wp2
           go_ret2
           exact⟨by rw[←HE.out];rfl,hb2⟩
    · have HE:Hid (nfault s.data.toList=Z):=by
       have:=HRA.out
       rw[if_pos hn0]at this
       exact this
      have hz:(nfault s.data.toList != 0)=true:=by simpa using hn0
      clear HRA hn0
      generalize nfault s.data.toList=z at *
      go_wp2_with fail
      refine C1.mono ?_
      rintro e w1 ⟨rfl,rfl⟩
      go_wp2
      go_ret2
      exact⟨by rw[←HE.out];rfl,hb⟩
  · exfalso
    have:=HR.out
    rw[List.drop_of_length_le (by simp;omega)]at this
    exact HNZ.out this.symm
def RecRet (w:World)(ps:List Fd)(e:Ending):Prop:=
 if (recN (recS ps)).length≤200 then ∃q c,e= .returned (.tuple #[.slice q (recN (recS ps)).length c,.int .i64 0])∧NL w q (recN (recS ps))
 else e= .returned (.tuple #[.slice none 0 0,.int .i64 4])
def RecRetT (w:World)(ps:List Fd)(e:Ending):Prop:=
 if (recN (recS ps)).length≤200 then ∃q c,e= .returned (.tuple #[.slice q (recN (recS ps)).length c,.int .i64 0])∧NL w q (recN (recS ps))∧(recN (recS ps)).length≤c∧c≤maxLen
 else e= .returned (.tuple #[.slice none 0 0,.int .i64 4])
theorem textC_drawn (a b:ByteArray)(w:World)(ha:a.size≤maxLen)(hb:b.size≤maxLen)(n:Nat):
 Calls Tryz.prog 45 #[.string a,.string b] (w.drewN n) fun e w'=>e= .returned (.int .i64 (cmpB a b))∧∃m,w'=w.drewN m:=
 (textC_any a b (w.drewN n) ha hb).mono fun e w' ⟨h1,m,h2⟩=>⟨h1,n+m,by rw[h2,World.drewN_drewN]⟩
set_option maxRecDepth 100000 in
theorem refRec_full (names:List ByteArray)(vs:List (List Nd))(p q:Option Addr)(c d:Nat)(w:World)(hn:TL w p names)(hv:LL w q vs)(hl:names.length=vs.length)(hsz:∀t∈names,t.size≤maxLen)(hle:names.length≤4294967296)(h:rfault [] (names.zip vs)=0):
 Calls Tryz.prog 29 #[.slice p names.length c,.slice q vs.length d] w fun e w'=>RecRetT w' (names.zip vs) e∧Below w.heap.size w w':=by
 obtain⟨hok,_,hnd⟩:=(rfault_zero [] _).1 h
 have hf:(names.zip vs).map Prod.fst=names:=List.map_fst_zip (by omega)
 rw[hf]at hnd
 have i0:((names.length:Int) != (vs.length:Int))=false:=by simp[hl]
 have HL:Hid (names.length=vs.length):=hl
 have HSZ:Hid (∀t∈names,t.size≤maxLen):=hsz
 have HZ:Hid (rfault (names.take 0) ((names.zip vs).drop 0)=0):=h
 have HOK:Hid (∀p∈names.zip vs,nfault p.1.data.toList=0∧vfault p.2=0):=hok
 have HND:Hid names.Nodup:=hnd
 clear h hsz hl hok hnd hf
 go_enter Tryz.func29,Tryz.ntmps29
 go_wp2
 go_loopw [6,7] (fun sz i wr=>∃k n:Nat,k≤names.length∧n≤401∧Hid (n=cnt ((names.zip vs).take k) 1)∧sz= .int .i64 n∧i= .int .i64 k∧Hid (rfault (names.take k) ((names.zip vs).drop k)=0)∧Below w.heap.size w wr) (fun _ i _=>names.length-(intOf i).toNat)
 case atStart=>exact⟨0,1,Nat.zero_le _,by omega,rfl,rfl,rfl,HZ,Below.refl _ _⟩
 case round=>
  obtain⟨k,n,hk,hn4,HC,rfl,rfl,HR,hb⟩:=hrel
  by_cases hlt:k<names.length
  · have i1:(k:Int)<(names.length:Int):=by omega
    have hlt2:k<vs.length:=by rw[←HL.out];exact hlt
    have i2:(k:Int)<(vs.length:Int):=by omega
    obtain⟨nb,no,rfl,hnb,nc⟩:=(hn.up hb).at hlt
    obtain⟨vb,vo,q',c',rfl,hvb,vc,hnl,h1,h2⟩:=(hv.up hb).at hlt2
    have hs:names[k].size≤maxLen:=HSZ.out _ (List.getElem_mem _)
    have hr:=(rfault_at' HL.out k hlt).symm.trans HR.out
    have hn0:nfault names[k].data.toList=0:=by
     by_cases e:nfault names[k].data.toList=0
     · exact e
     · rw[if_pos e]at hr;exact hr
    rw[if_neg (by rw[hn0];simp)]at hr
    have hsn:seenB (names.take k) names[k]=false:=by
     cases e:seenB (names.take k) names[k]
     · rfl
     · rw[e]at hr;simp at hr
    rw[if_neg (by rw[hsn];simp)]at hr
    have hv0:vfault vs[k]=0:=by
     by_cases e:vfault vs[k]=0
     · exact e
     · rw[if_pos e]at hr;exact hr
    rw[if_neg (by rw[hv0];simp)]at hr
    have HR2:Hid (rfault (names.take (k+1)) ((names.zip vs).drop (k+1))=0):=hr
    have C1:=nameFault_any names[k] wr hs
    have C2:=fun w' (hb':Below wr.heap.size wr w')=>valueFault_any vs[k] q' c' w' (hnl.up hb') h1 h2
    have HCN:Hid (cnt ((names.zip vs).take (k+1)) 1=if n≤200 then n+(1+vs[k].length)else n):=by
     show _=_
     have hz:k<(names.zip vs).length:=by simp;omega
     rw[List.take_succ_eq_append_getElem hz,cnt_append,←HC.out,List.getElem_zip]
     rfl
    rw[hn0]at C1
    rw[hv0]at C2
    have hvl:=isVal_past' hv0
    clear HR HC hr hn0 hv0 hnl
    generalize names[k]=s at *
    generalize vs[k]=v at *
    go_wp2_with fail
    refine C1.mono ?_
    rintro e w1 ⟨rfl,rfl⟩
    clear C1
    go_wp2
    go_loopw [9] (fun j wr2=>∃t:Nat,t≤k∧j= .int .i64 t∧∃m,wr2=w1.drewN m) (fun j _=>k-(intOf j).toNat)
    case atStart=>exact⟨0,Nat.zero_le _,rfl,0,rfl⟩
    case round=>
     obtain⟨t,ht,rfl,m,rfl⟩:=hrel
     by_cases htk:t<k
     · have i3:(t:Int)<(k:Int):=by omega
       have htn:t<names.length:=by omega
       have i4:(t:Int)<(names.length:Int):=by omega
       obtain⟨nb',no',e1,hnb',tc⟩:=(hn.up hb).at htn
       obtain⟨rfl,rfl⟩:nb=nb'∧no=no':=by simpa using e1
       have e:names[t]≠s:=fun e=>by rw[seen_at hk htk e]at hsn;cases hsn
       generalize names[t]=u at *
       have hne:(u.toList == s.toList)=false:=by
        rw[beq_eq_false_iff_ne]
        exact fun h=>e (bytes_inj (by simpa only[ByteArray.toList_eq]using h))
       clear e e1
       go_wp2
       go_quiet (fail)
       go_wp2
       go_roundw
       case rel=>exact⟨t+1,by omega,by go_num,_,by first | rfl | (rw[World.drewN_drewN])⟩
       case measure=>simp[intOf];omega
     · have i3:¬(t:Int)<(k:Int):=by omega
       obtain rfl:t=k:=by omega
       have hbm:Below w1.heap.size w1 (w1.drewN m):=⟨rfl,rfl,rfl,Nat.le_refl _,fun _ _=>rfl⟩
       have C3:=C2 _ hbm
       have hb1:=hb.trans (hbm.mono hb.size)
       clear C2
       by_cases hn2:n≤200
       · have i5:(n:Int)≤200:=by omega
         have HC2:Hid (n+(1+v.length)=cnt ((names.zip vs).take (t+1)) 1):=by show _=_;rw[HCN.out,if_pos hn2]
         go_wp2_with fail
         refine C3.mono ?_
         rintro e w2 ⟨rfl,hb2'⟩
         have hb2:=hb1.trans (hb2'.mono hb1.size)
         have vc2:=(hb2'.cell (p:=⟨vb,vo+t,none⟩) hvb).trans vc
         go_wp2
         go_roundw
         case rel=>exact⟨t+1,n+(1+v.length),by omega,by omega,HC2,by go_num,by go_num,HR2,hb2⟩
         case measure=>simp[intOf];omega
       · have i5:¬(n:Int)≤200:=by omega
         have HC2:Hid (n=cnt ((names.zip vs).take (t+1)) 1):=by show _=_;rw[HCN.out,if_neg hn2]
         go_wp2_with fail
         refine C3.mono ?_
         rintro e w2 ⟨rfl,hb2'⟩
         have hb2:=hb1.trans (hb2'.mono hb1.size)
         go_wp2
         go_roundw
         case rel=>exact⟨t+1,n,by omega,by omega,HC2,rfl,by go_num,HR2,hb2⟩
         case measure=>simp[intOf];omega
  · have i1:¬(k:Int)<(names.length:Int):=by omega
    have hzl:(names.zip vs).length=names.length:=by simp[HL.out]
    have hcn:n=cnt (names.zip vs) 1:=by
     have:=HC.out
     rw[List.take_of_length_le (by rw[hzl];omega)]at this
     exact this
    have hrl:(recN (recS (names.zip vs))).length=1+fsize (names.zip vs):=by rw[recN_length,fsize_perm (perm_recS _)];omega
    have hle2:=(cnt_le (names.zip vs) 1).1
    rw[←hcn,←hrl]at hle2
    by_cases hfit:n≤200
    · have i5:¬(200:Int)<(n:Int):=by omega
      have hfit2:=hle2.1 hfit
      have hSl:(recS (names.zip vs)).length=names.length:=by rw[(perm_recS _).length_eq,hzl]
      have hst:ON (wr.alloc (.cells #[.int .i64 6,.int .i64 names.length,.string ⟨#[]⟩,.string ⟨#[]⟩] 53)) wr.heap.size (.slice (some ⟨wr.heap.size,0,none⟩) 1 1) (recK (recS (names.zip vs)) 0):=
       ⟨⟨rfl,.inr ⟨wr.heap.size,1,_,rfl,Nat.le_refl _,heap_alloc_new wr _,Nat.le_refl _,by unfold maxLen;omega,rfl,by simp[recK,ncells,hSl]⟩⟩,fun x hx=>by simp[recK]at hx;subst hx;exact⟨Nat.zero_le _,Nat.zero_le _,by simp only;omega⟩⟩
      have hbA:Below w.heap.size w (wr.alloc (.cells #[.int .i64 6,.int .i64 names.length,.string ⟨#[]⟩,.string ⟨#[]⟩] 53)):=hb.alloc hb.size _
      have hBA:wr.heap.size≤(wr.alloc (.cells #[.int .i64 6,.int .i64 names.length,.string ⟨#[]⟩,.string ⟨#[]⟩] 53)).heap.size:=by simp
      have hwB:w.heap.size≤wr.heap.size:=hb.size
      have HMEM:Hid (∀(r:Nat) (hr:r<(recS (names.zip vs)).length),∃i,∃(h1:i<names.length) (h2:i<vs.length),names[i]=(recS (names.zip vs))[r].1∧vs[i]=(recS (names.zip vs))[r].2∧vfault vs[i]=0):=fun r hr=>by
       have hm:(recS (names.zip vs))[r]∈names.zip vs:=(perm_recS _).mem_iff.1 (List.getElem_mem _)
       obtain⟨i,hi,e⟩:=List.mem_iff_getElem.1 hm
       have hv0:=(HOK.out _ hm).2
       rw[hzl]at hi
       rw[List.getElem_zip]at e
       exact⟨i,hi,by rw[←HL.out];exact hi,by rw[←e],by rw[←e],by rw[←e]at hv0;exact hv0⟩
      have HRK:Hid (∀(t r:Nat) (ht:t<names.length) (hr:r<(recS (names.zip vs)).length),ahd names names[t]=r↔names[t]=(recS (names.zip vs))[r].1):=fun t r ht hr=>rank_iff HL.out HND.out ht hr
      have HINJ:Hid (∀(i j:Nat) (hi:i<names.length) (hj:j<names.length),names[i]=names[j]→i=j):=fun i j hi hj e=>(List.getElem_inj HND.out).1 e
      have HRET:Hid (∀w' q c,NL w' q (recN (recS (names.zip vs)))→(recN (recS (names.zip vs))).length≤c→c≤maxLen→RecRetT w' (names.zip vs) (.returned (.tuple #[.slice q (recN (recS (names.zip vs))).length c,.int .i64 0]))):=fun w' q c hq hq1 hq2=>by
       unfold RecRetT
       rw[if_pos hfit2]
       exact⟨q,c,rfl,hq,hq1,hq2⟩
      have HST:Hid (ON (wr.alloc (.cells #[.int .i64 6,.int .i64 names.length,.string ⟨#[]⟩,.string ⟨#[]⟩] 53)) wr.heap.size (.slice (some ⟨wr.heap.size,0,none⟩) 1 1) (recK (recS (names.zip vs)) 0)):=hst
      have HKL:Hid (∀r,(recK (recS (names.zip vs)) r).length≤200):=fun r=>by
       have h1:(recK (recS (names.zip vs)) r).length=fsize ((recS (names.zip vs)).take r)+1:=by unfold recK;rw[List.length_cons,fsize_flat]
       have h2:=fsize_append ((recS (names.zip vs)).take r) ((recS (names.zip vs)).drop r)
       rw[List.take_append_drop]at h2
       have h3:=hfit2
       rw[recN_length]at h3
       omega
      clear hle2 hrl hcn HC HR hst hb HOK HND hzl i0
      generalize recS (names.zip vs)=S at *
      go_wp2
      obtain⟨B,hB⟩:∃B,B=wr.heap.size:=⟨_,rfl⟩
      rw[←hB]at hBA hwB HST ⊢
      clear hB
      generalize wr.alloc (.cells #[.int .i64 6,.int .i64 names.length,.string ⟨#[]⟩,.string ⟨#[]⟩] 53)=wA at *
      go_loopw [10,11] (fun ov rk w2=>∃r:Nat,r≤names.length∧rk= .int .i64 r∧Hid (ON w2 B ov (recK S r))∧B≤w2.heap.size∧Below w.heap.size w w2) (fun _ rk _=>names.length-(intOf rk).toNat)
      case atStart=>exact⟨0,Nat.zero_le _,rfl,HST,hBA,hbA⟩
      case round=>
       obtain⟨r,hr,rfl,HO,hBr,hbr⟩:=hrel
       by_cases hlt:r<names.length
       · have j1:(r:Int)<(names.length:Int):=by omega
         have hrS:r<S.length:=by omega
         obtain⟨ir,hir,hir2,en,ev,hv0⟩:=HMEM.out r hrS
         have HRR:=fun t ht=>HRK.out t r ht hrS
         have HNX:Hid (recK S (r+1)=(recK S r++[⟨7,0,S[r].1,⟨#[]⟩⟩])++S[r].2):=recK_next hrS
         rw[←en,←ev]at HNX
         rw[←en]at HRR
         have HIR:Hid (∀t (ht:t<names.length),ahd names names[t]=r→t=ir):=fun t ht h=>HINJ.out t ir ht hir ((HRR t ht).1 h)
         have HIR2:Hid (ahd names names[ir]=r):=(HRR ir hir).2 rfl
         clear HRR en ev
         go_wp2
         go_loopw [10,12] (fun ov i w3=>∃t:Nat,t≤names.length∧i= .int .i64 t∧Hid (ON w3 B ov (if t≤ir then recK S r else recK S (r+1)))∧B≤w3.heap.size∧Below w.heap.size w w3) (fun _ i _=>names.length-(intOf i).toNat)
         case atStart=>exact⟨0,Nat.zero_le _,rfl,(by rw[if_pos (Nat.zero_le _)];exact HO.out:ON wr B _ (if 0≤ir then recK S r else recK S (r+1))),hBr,hbr⟩
         case round=>
          obtain⟨t,ht,rfl,HO2,hBt,hbt⟩:=hrel
          by_cases hltt:t<names.length
          · have j2:(t:Int)<(names.length:Int):=by omega
            have hs:names[t].size≤maxLen:=HSZ.out _ (List.getElem_mem _)
            obtain⟨nb,no,rfl,hnb,nc⟩:=hn.at hltt
            go_wp2
            go_loopw [13,14] (fun a j w4=>∃x:Nat,x≤names.length∧j= .int .i64 x∧a= .int .i64 (ahd (names.take x) names[t]:Nat)∧Below wr.heap.size wr w4) (fun _ j _=>names.length-(intOf j).toNat)
            case atStart=>exact⟨0,Nat.zero_le _,rfl,rfl,Below.refl _ _⟩
            case round=>
             obtain⟨x,hx,rfl,rfl,hbx⟩:=hrel
             have hbw:=hbt.trans (hbx.mono hbt.size)
             by_cases hltx:x<names.length
             · have j3:(x:Int)<(names.length:Int):=by omega
               obtain⟨nb',no',e1,hnb',xc⟩:=hn.at hltx
               obtain⟨rfl,rfl⟩:nb=nb'∧no=no':=by simpa using e1
               have hu:names[x].size≤maxLen:=HSZ.out _ (List.getElem_mem _)
               have HT:=fun m=>textC_drawn names[x] names[t] wr hu hs m
               have xc':=(hbw.cell (p:=⟨nb,no+x,none⟩) hnb).trans xc
               have nc':=(hbw.cell (p:=⟨nb,no+t,none⟩) hnb).trans nc
               have hal:ahd (names.take x) names[t]≤names.length:=Nat.le_trans (ahd_le _ _) (by rw[List.length_take];exact Nat.min_le_right _ _)
               have HA:Hid (ahd (names.take (x+1)) names[t]=if cmpB names[x] names[t]<0 then ahd (names.take x) names[t]+1 else ahd (names.take x) names[t]):=by
                show _=_
                rw[←ahd_snoc,List.take_succ_eq_append_getElem hltx]
               have hbz:∀m,Below wr.heap.size wr (wr.drewN m):=fun m=>⟨rfl,rfl,rfl,Nat.le_refl _,fun _ _=>rfl⟩
               have HBZ:Hid (∀m,Below wr.heap.size wr (wr.drewN m)):=hbz
               clear xc e1 hbz HIR HIR2
               by_cases hc:cmpB names[x] names[t]<0
               · have HA2:Hid (ahd (names.take (x+1)) names[t]=ahd (names.take x) names[t]+1):=by show _=_;rw[HA.out,if_pos hc]
                 clear HA
                 generalize names[t]=s at *
                 generalize names[x]=u at *
                 generalize ahd (names.take x) s=A at *
                 generalize cmpB u s=z at *
                 go_wp2
                 go_quiet (exact HT _)
                 go_wp2
                 go_roundw
                 case rel=>exact⟨x+1,by omega,by go_num,by rw[HA2.out];go_num,hbx.trans ((HBZ.out _).mono hbx.size)⟩
                 case measure=>simp[intOf];omega
               · have HA2:Hid (ahd (names.take (x+1)) names[t]=ahd (names.take x) names[t]):=by show _=_;rw[HA.out,if_neg hc]
                 clear HA
                 generalize names[t]=s at *
                 generalize names[x]=u at *
                 generalize ahd (names.take x) s=A at *
                 generalize cmpB u s=z at *
                 go_wp2
                 go_quiet (exact HT _)
                 go_wp2
                 go_roundw
                 case rel=>exact⟨x+1,by omega,by go_num,by rw[HA2.out],hbx.trans ((HBZ.out _).mono hbx.size)⟩
                 case measure=>simp[intOf];omega
             · have j3:¬(x:Int)<(names.length:Int):=by omega
               obtain rfl:x=names.length:=by omega
               rw[List.take_length]
               have hal:ahd names names[t]≤names.length:=ahd_le _ _
               by_cases he:ahd names names[t]=r
               · obtain rfl:t=ir:=HIR.out t hltt he
                 rw[he]
                 have nc':=(hbw.cell (p:=⟨nb,no+t,none⟩) hnb).trans nc
                 obtain⟨vb,vo,q',c',rfl,hvb,vc,hnl,h1,h2⟩:=hv.at hir2
                 have j4:(t:Int)<(vs.length:Int):=by omega
                 have HO3:Hid (ON wr B u10 (recK S r)):=by
                  have:=HO2.out
                  rw[if_pos (Nat.le_refl _)]at this
                  exact this.below hbx
                 have hkl:=HKL.out r
                 have HXT:Hid (ON wr B u10 (recK S r)):=HO3
                 clear HIR HIR2 HO2 he HO3
                 generalize names[t]=s at *
                 generalize vs[t]=v at *
                 obtain⟨y,tl,rfl⟩:∃y t,v=y::t:=by obtain⟨y,t,e,_⟩:=value_head hv0;exact⟨y,t,e⟩
                 have hvl:tl.length≤199:=by have:=(isVal_past hv0).1;simp only[List.length_cons]at this;omega
                 obtain⟨pb,po,rfl,hpb,_⟩:=hnl.head
                 have HNL:Hid (NL w (some ⟨pb,po,none⟩) (y::tl)):=hnl
                 have hba:Below wr.heap.size wr (wr.alloc (.cells #[.int .i64 7,.int .i64 0,.string s,.string ⟨#[]⟩] 53)):=(Below.refl _ _).alloc (Nat.le_refl _) _
                 have HN1:Hid (NL (wr.alloc (.cells #[.int .i64 7,.int .i64 0,.string s,.string ⟨#[]⟩] 53)) (some ⟨wr.heap.size,0,none⟩) [⟨7,0,s,⟨#[]⟩⟩]):=NL.one wr s hs
                 have hBw:B≤wr.heap.size:=Nat.le_trans hBt hbx.size
                 have hBa:B≤(wr.alloc (.cells #[.int .i64 7,.int .i64 0,.string s,.string ⟨#[]⟩] 53)).heap.size:=Nat.le_trans hBw hba.size
                 have hbwa:=hbw.trans (hba.mono hbw.size)
                 clear hnl hv0
                 generalize recK S r=RK at *
                 go_wp2_with (first
                  | (at_builtin;refine append_nodes _ rfl (.tmp 105) (.tmp 111) rfl B u10 RK rfl (HXT.out.below hba) [⟨7,0,s,⟨#[]⟩⟩] 1 rfl wr.heap.size 0 1 HN1.out rfl (by simp only[List.length_cons,List.length_nil];omega) hBa ?_;intro v5 w5 hon5 hk5;have hb5:=hbwa.trans (hk5.bel.mono hwB);have vc5:=(hb5.cell (p:=⟨vb,vo+t,none⟩) hvb).trans vc;have HO5:Hid (ON w5 B v5 (RK++[⟨7,0,s,⟨#[]⟩⟩])):=hon5;have hB5:=Nat.le_trans hBa hk5.bel.size;clear hon5)
                  | (at_builtin;refine append_nodes w5 rfl (.tmp 113) (.tmp 117) rfl B v5 (RK++[⟨7,0,s,⟨#[]⟩⟩]) rfl HO5.out (y::tl) _ rfl pb po c' (HNL.out.up hb5) rfl (by simp only[List.length_append,List.length_cons,List.length_nil];omega) hB5 ?_;intro v6 w6 hon6 hk6;have HO6:Hid (ON w6 B v6 (RK++[⟨7,0,s,⟨#[]⟩⟩]++(y::tl))):=hon6;clear hon6))
                 go_roundw
                 case rel=>exact⟨t+1,by omega,by go_num,(by show ON _ _ _ _;rw[if_neg (by omega),HNX.out];exact HO6.out),Nat.le_trans hB5 hk6.bel.size,hb5.trans (hk6.bel.mono hwB)⟩
                 case measure=>simp[intOf];omega
               · have hti:t≠ir:=fun e=>by subst e;exact he HIR2.out
                 have HO3:Hid (ON wr B u10 (if t+1≤ir then recK S r else recK S (r+1))):=by
                  have:=HO2.out
                  by_cases h5:t≤ir
                  · rw[if_pos h5]at this
                    show ON _ _ _ _
                    rw[if_pos (by omega)]
                    exact this.below hbx
                  · rw[if_neg h5]at this
                    show ON _ _ _ _
                    rw[if_neg (by omega)]
                    exact this.below hbx
                 have hne:((ahd names names[t]:Int) == (r:Int))=false:=by simp;omega
                 generalize ahd names names[t]=A at *
                 clear HO2 HIR HIR2
                 go_wp2
                 go_roundw
                 case rel=>exact⟨t+1,by omega,by go_num,HO3,Nat.le_trans hBt hbx.size,hbw⟩
                 case measure=>simp[intOf];omega
          · have j2:¬(t:Int)<(names.length:Int):=by omega
            have HO3:Hid (ON wr B u10 (recK S (r+1))):=by
             have:=HO2.out
             rw[if_neg (by omega)]at this
             exact this
            clear HO2 HIR HIR2
            go_wp2
            go_roundw
            case rel=>exact⟨r+1,by omega,by go_num,HO3,hBt,hbt⟩
            case measure=>simp[intOf];omega
       · have j1:¬(r:Int)<(names.length:Int):=by omega
         obtain rfl:r=S.length:=by omega
         rw[recK_all]at HO
         obtain⟨g2,cap2,rfl,hg2,hgw2,hgc2,hgm2,hgn2,_⟩:=HO.out.slice (by simp[recN])
         have HRT:Hid _:=HRET.out wr (some ⟨g2,0,none⟩) cap2 hgn2 hgc2 hgm2
         go_wp2
         go_ret2
         exact⟨HRT.out,hbr⟩
    · have i5:(200:Int)<(n:Int):=by omega
      have HRET:Hid (∀w',RecRetT w' (names.zip vs) (.returned (.tuple #[.slice none 0 0,.int .i64 4]))):=fun w'=>by
       unfold RecRetT
       rw[if_neg (fun hh=>hfit (hle2.2 hh))]
      clear hle2 hrl hcn HC HR
      go_wp2
      go_ret2
      exact⟨HRET.out _,hb⟩
end Go.Proofs.YtnbkfggmpiccjaaGreatDoor
