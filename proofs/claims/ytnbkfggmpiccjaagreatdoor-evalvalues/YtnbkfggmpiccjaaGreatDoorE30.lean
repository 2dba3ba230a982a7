import Derived.Test.YtnbkfggmpiccjaaGreatDoorE27
import Derived.Test.YtnbkfggmpiccjaaGreatDoorE24
import Derived.Test.YtnbkfggmpiccjaaGreatDoorE23
set_option linter.unusedVariables false
set_option maxHeartbeats 12000000
namespace Go.Proofs.YtnbkfggmpiccjaaGreatDoor
open Go.RowKit
def PartsRetB (w:World)(base B:Nat)(l:List (List Nd))(e:Ending):Prop:=∃q1 c1 q2 c2,e= .returned (.tuple #[.slice q1 l.length c1,.slice q2 l.length c2])∧OLB w base B (.slice q1 l.length c1) l
set_option maxRecDepth 100000 in
theorem refParts_setB (x:Nd)(r:List Nd)(ss:List (List Nd))(hss:Segs (x::r).length r ss)(hh:∀s∈ss,∃y t,s=y::t∧y.op≠7)(hcnt:(ss.length:Int)=x.n)(b off c B:Nat)(w:World)(hB:B≤w.heap.size)(hN0:NT w B (some ⟨b,off,none⟩) (x::r))(hv:NL w (some ⟨b,off,none⟩) (x::r))(hbw:b<w.heap.size)(hl:(x::r).length≤200)(hc:(x::r).length≤c)(hcm:c≤maxLen)(hop:x.op=5):
 Calls Tryz.prog 87 #[.slice (some ⟨b,off,none⟩) (x::r).length c] w fun e w'=>PartsRetB w' w.heap.size B (ss.map strip) e∧Below w.heap.size w w':=by
 have HM:Hid (c≤maxLen):=hcm
 have HBT:Hid (b<B∨Typed w b 53):=by
  rcases hN0.2 with h | ⟨b1,o1,e1,h1⟩
  · cases h
  · cases e1;exact h1
 clear hN0
 unfold maxLen at hcm
 have hsl:=hss.length
 obtain⟨b',o',hpe,_,x0,x1,_,_,xw⟩:=hv.head
 obtain⟨rfl,rfl⟩:b=b'∧off=o':=by simpa using hpe
 have HSS:Hid (Segs (x::r).length r ss):=hss
 have HH:Hid (∀s∈ss,∃y t,s=y::t∧y.op≠7):=hh
 generalize hV:x::r=v at *
 have hvl:v.length=r.length+1:=by rw[←hV];rfl
 have HVL:Hid (v.length=r.length+1):=hvl
 have hd1:v.drop 1=r:=by rw[←hV];rfl
 have HD1:Hid (_=_):=hd1
 have eop:(x.op == 6)=false:=by simp[hop]
 have i0:(0:Int)<(v.length:Int):=by omega
 have hsl2:ss.length+1≤v.length:=by omega
 clear hss hh hpe hop hV hd1 hvl
 go_enter Tryz.func87,Tryz.ntmps87
 go_wp2
 go_loopw [4,5,6,7,8] (fun ov nv sa i sn wr=>∃(k at_:Nat) (done ss':List (List Nd)),i= .int .i64 k∧sa= .int .i64 at_∧OLB wr w.heap.size B ov (done.map strip)∧OT wr w.heap.size nv (done.map nameOf)∧done.length=k∧Hid (Segs v.length (v.drop at_) ss')∧Hid (done++ss'=ss)∧at_≤v.length∧1≤at_∧Below w.heap.size w wr) (fun _ _ _ i _ _=>ss.length-(intOf i).toNat)
 case atStart=>exact⟨0,1,[],ss,rfl,rfl,OLB.nil _ _ _,Row1.nil _ _ _,rfl,by rw[HD1.out];exact HSS,rfl,by omega,Nat.le_refl _,Below.refl _ _⟩
 case round=>
  obtain⟨k,at_,done,ss',rfl,rfl,hol,hot,hdl,HSg,HD,hat,hat1,hb⟩:=hrel
  have z0:=(hb.cell (p:=⟨b,off,none⟩) hbw).trans x0
  have z1:=(hb.cell (p:=⟨b,off+1,none⟩) hbw).trans x1
  have hlen:=congrArg List.length HD.out
  rw[List.length_append]at hlen
  have hvr:=hv.up hb
  generalize hu:v.drop at_=u at *
  cases hsg:HSg.out with
  | nil=>
    have HE:Hid (done=ss):=by have:=HD.out;show _=_;simpa using this
    simp at hlen
    have i1:¬(k:Int)<x.n:=by omega
    clear hsg
    obtain⟨q1,c1,rfl,_,_⟩:=hol.lists
    obtain⟨q2,c2,rfl,htl,_⟩:=hot.texts
    rw[HE.out]at hol ⊢
    simp only[List.length_map]at hol ⊢
    go_wp2
    go_ret2
    exact⟨⟨q1,c1,q2,c2,by simp,by simpa using hol⟩,hb⟩
  | @cons a r' ss2 h hs=>
    obtain⟨y,t,rfl,hy⟩:=HH.out a (by rw[←HD.out];simp)
    simp at hlen
    have hul:(v.drop at_).length=v.length-at_:=by simp
    rw[hu]at hul
    simp at hul
    have i1:(k:Int)<x.n:=by omega
    have hda:=Segs.drop_eq hu
    simp only[List.length_cons]at hda
    have HS2:Hid (Segs v.length r' ss2):=hs
    have halt:at_<v.length:=by omega
    have HY:Hid (y.op≠7):=hy
    have hpv:pastV v.length ((y::t)++r')=some r':=by
     have:=h
     simp only[List.cons_append,itemP,if_neg hy]at this
     exact this
    have hendc:=fun w' (hb':Below w.heap.size w w')=>valueEnd_any (v.length+1) v b off c at_ false w' (by omega) (by omega) (hv.up hb') (Nat.lt_of_lt_of_le hbw hb'.size) hc HM.out
    rw[pastF_value,hu,pastV_fuel (v.length+1) v.length ((y::t)++r') (by simp;omega) (by simp;omega),hpv]at hendc
    have hen:endI v.length (some r')=((at_+1+t.length:Nat):Int):=by unfold endI;simp only[];omega
    rw[hen]at hendc
    have j1:(at_:Int)≤((at_+1+t.length:Nat):Int):=by omega
    have j2:((at_+1+t.length:Nat):Int)≤(c:Int):=by omega
    have hst:strip (y::t)=y::t:=by show(if y.op=7 then t else y::t)=_;rw[if_neg hy]
    have hnm:nameOf (y::t)=⟨#[]⟩:=by show(if y.op=7 then y.s else _)=_;rw[if_neg hy]
    have j4:¬c=at_:=by omega
    have hT:NL w (some ⟨b,off+at_*4,none⟩) (y::t):=by
     have:=hv.from at_ (y::t).length
     rw[hu,List.take_left]at this
     exact this
    generalize hen2:at_+1+t.length=en at *
    have HEN:Hid (_=_):=hen2
    clear hsg h hs hpv hu hen hy hen2
    go_wp2_with fail
    refine(hendc _ hb).mono ?_
    rintro e w1 ⟨rfl,hb1⟩
    have hb2:=hb.trans (hb1.mono hb.size)
    have hol1:=hol.below hb1 hB hb.size
    have hot1:OT w1 w.heap.size u5 (done.map nameOf):=Row1.kept (e:=312) hot (Kept.of_below hb1 hb.size) (by decide)
    have hNT:NT w1 B (some ⟨b,off+at_*4,none⟩) (y::t):=⟨hT.up hb2,.inr ⟨b,_,rfl,HBT.out.imp id (fun⟨cur,fr,hx⟩=>⟨cur,fr,(hb2.block b hbw).trans hx⟩)⟩⟩
    have hLn:(y::t).length=(en-at_):=by have:=HEN.out;first | (simp;omega) | omega
    have hdm:(done.map strip).length≤200:=by simp;omega
    have hdm2:(done.map nameOf).length≤200:=by simp;omega
    clear hendc hol hot z0 z1
    have HOL:Hid (OLB w1 w.heap.size B u4 (done.map strip)):=hol1
    have HOT:Hid (OT w1 w.heap.size u5 (done.map nameOf)):=hot1
    clear hol1 hot1
    go_wp2_with (first
     | (at_builtin;refine append_listB w1 rfl (.tmp 33) (.tmp 38) rfl w.heap.size B hB u4 (done.map strip) rfl HOL.out (y::t) (en-at_) hLn (some ⟨b,off+at_*4,none⟩) (c-at_) hNT (by omega) (by unfold maxLen;omega) rfl (by omega) hb2.size ?_;intro v1 w2 hol2 hk2;have hot2:OT w2 w.heap.size u5 (done.map nameOf):=Row1.kept HOT.out hk2 (by decide);have hb3:=hb2.trans hk2.bel;have HO2:Hid (OLB w2 w.heap.size B v1 (done.map strip++[(y::t)])):=hol2;clear hol2)
     | (at_builtin;refine append_text w2 rfl (.tmp 40) (.tmp 42) rfl w.heap.size u5 (done.map nameOf) rfl hot2 ⟨#[]⟩ rfl (by omega) hb3.size ?_;intro v2 w3 hot3 hk3))
    have hol3:=HO2.out.kept hk3 hB (by decide) (by decide)
    go_roundw
    case rel=>exact⟨k+1,en,done++[y::t],ss2,by go_num,rfl,by rw[List.map_append,List.map_cons,hst];exact hol3,by rw[List.map_append,List.map_cons,hnm];exact hot3,by simp[hdl],by rw[←HEN.out,show at_+1+t.length=at_+(t.length+1) by omega,hda.1];exact HS2,by show _=_;rw[←HD.out];simp,by have:=HEN.out;omega,by have:=HEN.out;omega,hb3.trans hk3.bel⟩
    case measure=>simp[intOf];omega
theorem refParts_row (l:List (List Nd))(p:Option Addr)(c:Nat)(w:World)(hs:NL w p (setN l))(hc:(setN l).length≤c)(hcm:c≤maxLen)(h:IsSet l):
 Calls Tryz.prog 87 #[.slice p (setN l).length c] w fun e w'=>(∃q1 c1 q2 c2,e= .returned (.tuple #[.slice q1 l.length c1,.slice q2 l.length c2])∧LL w' q1 l)∧Below w.heap.size w w':=by
 obtain⟨b,o,rfl,hbw,_⟩:=(show NL w p (⟨5,l.length,⟨#[]⟩,⟨#[]⟩⟩::l.flatten) from hs).head
 have hh:∀s∈l,∃y t,s=y::t∧y.op≠7:=fun s hm=>by
  obtain⟨y,t,e,_,h7,_⟩:=value_head (h.vals s hm)
  exact⟨y,t,e,h7⟩
 have:=refParts_set ⟨5,l.length,⟨#[]⟩,⟨#[]⟩⟩ l.flatten l (values_segs _ l h.vals (fun v hm=>by have:=mem_flat hm;show v.length+1≤l.flatten.length+1;omega)) hh rfl b o c w hs hbw h.short hc hcm rfl
 refine this.mono fun e w' ⟨⟨q1,c1,q2,c2,h1,h2,_⟩,h4⟩=>⟨⟨q1,c1,q2,c2,h1,?_⟩,h4⟩
 rw[values_strip h.vals]at h2
 exact h2
theorem refParts_rowB (l:List (List Nd))(p:Option Addr)(c B:Nat)(w:World)(hB:B≤w.heap.size)(hs:NT w B p (setN l))(hc:(setN l).length≤c)(hcm:c≤maxLen)(h:IsSet l):
 Calls Tryz.prog 87 #[.slice p (setN l).length c] w fun e w'=>PartsRetB w' w.heap.size B l e∧Below w.heap.size w w':=by
 obtain⟨b,o,rfl,hbw,_⟩:=(show NL w p (⟨5,l.length,⟨#[]⟩,⟨#[]⟩⟩::l.flatten) from hs.1).head
 have hh:∀s∈l,∃y t,s=y::t∧y.op≠7:=fun s hm=>by
  obtain⟨y,t,e,_,h7,_⟩:=value_head (h.vals s hm)
  exact⟨y,t,e,h7⟩
 have:=refParts_setB ⟨5,l.length,⟨#[]⟩,⟨#[]⟩⟩ l.flatten l (values_segs _ l h.vals (fun v hm=>by have:=mem_flat hm;show v.length+1≤l.flatten.length+1;omega)) hh rfl b o c B w hB hs hs.1 hbw h.short hc hcm rfl
 rw[values_strip h.vals]at this
 exact this
theorem within_any (l:List (List Nd))(v:List Nd)(p q:Option Addr)(c d:Nat)(w:World)(hs:NL w p (setN l))(hc:(setN l).length≤c)(hcm:c≤maxLen)(hv:NL w q v)(hd:v.length≤maxLen)(h:IsSet l):
 Calls Tryz.prog 88 #[.slice p (setN l).length c,.slice q v.length d] w fun e w'=>e= .returned (.bool (inB l v))∧Below w.heap.size w w':=by
 have H1:=refParts_row l p c w hs hc hcm h
 have L1:=h.len
 clear hs h
 go_enter Tryz.func88,Tryz.ntmps88
 go_wp2_with fail
 refine H1.mono ?_
 rintro e w1 ⟨⟨q1,c1,q2,c2,rfl,k1⟩,hb1⟩
 have hv1:=hv.up hb1
 have HB1:Hid (Below w.heap.size w w1):=hb1
 clear H1 hv hb1
 go_wp2
 go_loopw [7] (fun i wr=>∃k:Nat,k≤l.length∧i= .int .i64 k∧Hid (inB (l.take k) v=false)∧Below w1.heap.size w1 wr) (fun i _=>l.length-(intOf i).toNat)
 case atStart=>exact⟨0,Nat.zero_le _,rfl,rfl,Below.refl _ _⟩
 case round=>
  obtain⟨k,hk,rfl,HA,hb⟩:=hrel
  by_cases hlt:k<l.length
  · have i1:(k:Int)<(l.length:Int):=by omega
    obtain⟨b,off,q',c',rfl,hbw,hcell,hnl,h1,h2⟩:=(k1.up hb).at hlt
    have HN:Hid (inB (l.take (k+1)) v=(inB (l.take k) v || decide (lsC l[k] v=0))):=by
     show _=_
     unfold inB
     rw[List.take_succ_eq_append_getElem hlt,List.any_append];simp
    have HH:Hid (lsC l[k] v=0→inB l v=true):=fun e=>by
     rw[inB_iff,←(lsC_is.zero _ _).1 e];exact List.getElem_mem _
    generalize l[k]=a at *
    have H2:=refNodes_any a v q' q c' d wr hnl (hv1.up hb) (Nat.le_trans h1 h2) hd
    by_cases hz:lsC a v=0
    · rw[hz]at H2
      have HA2:Hid (inB l v=true):=HH.out hz
      clear HN HH HA
      go_wp2_with fail
      refine H2.mono ?_
      rintro e w2 ⟨rfl,n2,rfl⟩
      go_wp2
      go_ret
      exact⟨by rw[HA2.out];rfl,HB1.out.trans ((Below.mono ⟨hb.os,hb.tape,hb.output,hb.size,hb.block⟩ HB1.out.size:Below w.heap.size w1 (wr.drewN n2)))⟩
    · have HA2:Hid (inB (l.take (k+1)) v=false):=by show _=_;rw[HN.out,HA.out,decide_eq_false hz];rfl
      have hz':(lsC a v == 0)=false:=by simpa using hz
      clear HN HH HA
      generalize lsC a v=z at *
      go_wp2_with fail
      refine H2.mono ?_
      rintro e w2 ⟨rfl,n2,rfl⟩
      go_wp2
      go_roundw
      case rel=>exact⟨k+1,by omega,by go_num,HA2,⟨hb.os,hb.tape,hb.output,hb.size,hb.block⟩⟩
      case measure=>simp[intOf];omega
  · have i1:¬(k:Int)<(l.length:Int):=by omega
    have HA2:Hid (inB l v=false):=by
     have:=HA.out
     rw[List.take_of_length_le (by omega)]at this
     exact this
    go_wp2
    go_ret
    exact⟨by rw[HA2.out];rfl,HB1.out.trans (hb.mono HB1.out.size)⟩
def ChosenRet (w:World)(base B:Nat)(l:List (List Nd))(e:Ending):Prop:=∃v,e= .returned v∧OLB w base B v l
theorem chosen_any (l m:List (List Nd))(has:Bool)(p q:Option Addr)(c d B:Nat)(w:World)(hB:B≤w.heap.size)(hs:NT w B p (setN l))(hc:(setN l).length≤c)(hcm:c≤maxLen)(ht:NL w q (setN m))(hd:(setN m).length≤d)(hdm:d≤maxLen)(hl:IsSet l)(hm:IsSet m):
 Calls Tryz.prog 89 #[.slice p (setN l).length c,.slice q (setN m).length d,.bool has] w fun e w'=>ChosenRet w' w.heap.size B (l.filter fun v=>inB m v == has) e∧Below w.heap.size w w':=by
 have H1:=refParts_rowB l p c B w hB hs hc hcm hl
 have L1:=hl.len
 have HW:=fun v q' d' w' (h1:Below w.heap.size w w') (h2:NL w' q' v) (h3:v.length≤maxLen)=>within_any m v q q' d d' w' (ht.up h1) hd hdm h2 h3 hm
 clear hs hl ht hm
 go_enter Tryz.func89,Tryz.ntmps89
 go_wp2_with fail
 refine H1.mono ?_
 rintro e w1 ⟨⟨q1,c1,q2,c2,rfl,k1⟩,hb1⟩
 have HB1:Hid (Below w.heap.size w w1):=hb1
 have hB1:B≤w1.heap.size:=Nat.le_trans hB hb1.size
 have HWW:Hid (∀v q' d' w',Below w.heap.size w w'→NL w' q' v→v.length≤maxLen→Calls Tryz.prog 88 #[.slice q (setN m).length d,.slice q' v.length d'] w' fun e w''=>e= .returned (.bool (inB m v))∧Below w'.heap.size w' w''):=HW
 have K1:Hid (OLB w1 w.heap.size B (.slice q1 l.length c1) l):=k1
 clear H1 hb1 HW k1
 generalize (setN m).length=mn at *
 go_wp2
 go_loopw [7,10] (fun ov i wr=>∃k:Nat,k≤l.length∧i= .int .i64 k∧OLB wr w1.heap.size B ov ((l.take k).filter fun v=>inB m v == has)∧Below w1.heap.size w1 wr) (fun _ i _=>l.length-(intOf i).toNat)
 case atStart=>exact⟨0,Nat.zero_le _,rfl,OLB.nil _ _ _,Below.refl _ _⟩
 case round=>
  obtain⟨k,hk,rfl,hol,hb⟩:=hrel
  by_cases hlt:k<l.length
  · have i1:(k:Int)<(l.length:Int):=by omega
    obtain⟨b,q',c',hp0,hbw,hcell0,hnt0,h1,h2⟩:=K1.out.at hlt
    have HF:Hid ((l.take (k+1)).filter (fun v=>inB m v == has)=(l.take k).filter (fun v=>inB m v == has)++(if inB m l[k] == has then[l[k]]else[])):=by
     show _=_
     rw[List.take_succ_eq_append_getElem hlt,List.filter_append]
     congr 1
     cases e:(inB m l[k] == has)<;>simp[e]
    have hfl:((l.take k).filter fun v=>inB m v == has).length≤4294967296:=Nat.le_trans (List.length_filter_le _ _) (by simp;omega)
    have hcell:=(hb.cell (p:=⟨b,k,none⟩) hbw).trans hcell0
    have H2:=HWW.out l[k] q' c' wr (HB1.out.trans (hb.mono HB1.out.size)) (hnt0.1.up hb) (Nat.le_trans h1 h2)
    have HNT:Hid (NT w1 B q' l[k]):=hnt0
    generalize l[k]=v at *
    subst hp0
    have HO:Hid (OLB wr w1.heap.size B u7 ((l.take k).filter fun v=>inB m v == has)):=hol
    have HB:Hid (Below w1.heap.size w1 wr):=hb
    have hbw':b<wr.heap.size:=Nat.lt_of_lt_of_le hbw hb.size
    clear hol hcell0 hnt0 hb
    generalize (l.take k).filter (fun v=>inB m v == has)=acc at *
    by_cases ha:inB m v=has
    · have HF2:Hid ((l.take (k+1)).filter (fun v=>inB m v == has)=acc++[v]):=by show _=_;rw[HF.out,ha];simp
      clear HF
      rw[ha]at H2
      go_wp2_with fail
      refine H2.mono ?_
      rintro e w2 ⟨rfl,hb2'⟩
      have hb2:=HB.out.trans (hb2'.mono HB.out.size)
      have hcell2:=(hb2'.cell (p:=⟨b,k,none⟩) hbw').trans hcell
      cases has
      all_goals
       go_wp2_with (at_builtin;refine append_listB w2 rfl (.tmp 30) (.tmp 35) rfl w1.heap.size B hB1 u7 acc rfl (HO.out.below hb2' hB1 HB.out.size) v v.length rfl q' c' (HNT.out.kept (e:=312) ((Kept.of_below hb2 (Nat.le_refl _)).mono hB1) (by decide)) h1 h2 rfl (by omega) hb2.size ?_;intro v' w3 hol3 hk3)
       go_roundw
       case rel=>exact⟨k+1,by omega,by go_num,by rw[HF2.out];exact hol3,hb2.trans hk3.bel⟩
       case measure=>simp[intOf];omega
    · have HF2:Hid ((l.take (k+1)).filter (fun v=>inB m v == has)=acc):=by
       show _=_
       rw[HF.out,if_neg (by simpa using ha)];simp
      clear HF
      have ha2:inB m v= !has:=by cases e:inB m v<;>cases e2:has<;>simp_all
      rw[ha2]at H2
      go_wp2_with fail
      refine H2.mono ?_
      rintro e w2 ⟨rfl,hb2'⟩
      have hb2:=HB.out.trans (hb2'.mono HB.out.size)
      cases has
      all_goals
       go_wp2
       go_roundw
       case rel=>exact⟨k+1,by omega,by go_num,by rw[HF2.out];exact HO.out.below hb2' hB1 HB.out.size,hb2⟩
       case measure=>simp[intOf];omega
  · have i1:¬(k:Int)<(l.length:Int):=by omega
    have HE:Hid ((l.take k).filter (fun v=>inB m v == has)=l.filter fun v=>inB m v == has):=by show _=_;rw[List.take_of_length_le (by omega)]
    rw[HE.out]at hol
    have hol2:=hol.lower HB1.out.size
    go_wp2
    go_ret
    exact⟨⟨_,rfl,hol2⟩,HB1.out.trans (hb.mono HB1.out.size)⟩
end Go.Proofs.YtnbkfggmpiccjaaGreatDoor
