import Derived.Test.YtjkepjbfgeldnaaGreatDoorB20
import Derived.Test.YtjkepjbfgeldnaaGreatDoorB25
import Derived.Test.YtjkepjbfgeldnaaGreatDoorB31
import Derived.Test.YtjkepjbfgeldnaaGreatDoorB19
import Derived.Test.YtjkepjbfgeldnaaGreatDoorB8
set_option linter.unusedVariables false
set_option maxHeartbeats 12000000
namespace Go.Proofs.YtjkepjbfgeldnaaGreatDoor
open Go.RowKit
set_option linter.unusedSimpArgs false
set_option maxRecDepth 100000
theorem append_toksK (w:World){ops:Array Oper}{rest:List Oper}{o:Oper}{a:Act}{Q:Exit→Act→World→Prop}(hgd:o.guard=none)(s x:Operand)
 (ho:o.op= .call { callee:=.builtin .append,args:= #[s,x],argTypes:= #[49,49] })
 (base:Nat) (v:Value) (L:List Tk) (hs:a.eval s=v) (hown:OTk w base v L) (M:List Tk) (hne:M≠[]) (n:Nat) (hn:M.length=n) (q:Option Addr) (c:Nat) (hN:TKL w q M)
 (hx:a.eval x= .slice q n c) (hlen:L.length+M.length≤1099511627776) (hbase:base≤w.heap.size)
 (h:∀v' w',OTk w' base v' (L++M)→KW base w w'→wpList Tryz.prog ops Q rest (a.put o.dst v') w'):wpList Tryz.prog ops Q (o::rest) a w:=by
 subst hn
 obtain⟨i0,hi,hz0,hz1,hz2⟩:=info_parts Tryz.infoTok
 obtain⟨b,off,rfl,_,h5⟩:∃b off,q=some ⟨b,off,none⟩∧b<w.heap.size∧∀i x,M[i]? =some x→w.cell? ⟨b,off+i*3,none⟩=some (.int .i64 x.kind)∧w.cell? ⟨b,off+(i*3+1),none⟩=some (.string x.s)∧w.cell? ⟨b,off+(i*3+2),none⟩=some (.int .i64 x.at_):=by
  rcases hN with h0 | ⟨b,o,h0,h1,h2⟩
  · exact absurd h0 hne
  · exact⟨b,o,h0,h1,h2⟩
 refine wpList_append_own _ hgd s x 49 ho base 78 i0 _ 3 32 Tryz.underlying49 hi hz0 hz1 hz2 rfl (by decide) v L.length (tcells L) hs hown ⟨b,off,none⟩ M.length c (tcells M) hx (tcells_length M) ?_ ?_ (by unfold maxLen;omega) (by omega) hbase ?_
 · intro j u hu
   have hj:j<M.length*3:=by rw[←tcells_length];exact(List.getElem?_eq_some_iff.1 hu).1
   have hadd:(⟨b,off,none⟩:Addr).add j=⟨b,off+j,none⟩:=by unfold Addr.add;split<;>simp_all
   rw[hadd]
   have hi3:j / 3<M.length:=by omega
   have hx':=List.getElem?_eq_getElem hi3
   obtain⟨k1,k2,k3⟩:=tcells_at M (j / 3) _ hx'
   obtain⟨c1,c2,c3⟩:=h5 (j / 3) _ hx'
   have hj3:j=j / 3*3∨j=j / 3*3+1∨j=j / 3*3+2:=by omega
   rcases hj3 with e | e | e
   · rw[e]at hu ⊢; rw[k1]at hu;cases hu;exact c1
   · rw[e]at hu ⊢; rw[k2]at hu;cases hu;exact c2
   · rw[e]at hu ⊢; rw[k3]at hu;cases hu;exact c3
 · intro u hu
   clear hx hN hlen h hne h5
   induction M with
   | nil=>simp[tcells]at hu
   | cons t r ih=>
     simp only[tcells,List.mem_cons]at hu
     rcases hu with rfl | rfl | rfl | hu
     · rfl
     · rfl
     · rfl
     · exact ih hu
 · intro v' w' h1 h2 _
   refine h v' w' ?_ ⟨?_,?_⟩
   · unfold OTk;rw[tcells_append,List.length_append];exact h1
   · exact(Below.refl base w).grown h2 hbase (fun k hk=>(World.ownsRow.lt hown k hk).1)
   · intro b f hf _ hty
     refine h2.block b hty.lt (fun e=>?_)
     rcases hown.2 with⟨hv,_⟩ | ⟨g,cap,cur,hv,hb,hgg,_⟩
     · rw[hv]at e;simp[Value.ownBlock]at e
     · rw[hv]at e
       simp[Value.ownBlock]at e
       subst e
       obtain⟨c1,f1,g1⟩:=hty
       rw[hgg]at g1
       injection g1 with g1
       injection g1 with _ g1 _
       exact hf g1.symm
theorem Pw.self {B:Nat}{L:List Tk}{a b:World}(h:Pw B L a b):Pw B L b b:=⟨h.1,KP.refl _ _⟩
def hdK (p:Po)(k:Nat):List Tk:=if k=0 then[]else if k=1 then sdW sPrin p.who else if k=2 then sdW sPrin p.who++sgT kCom::sdW sAct p.act else sdW sPrin p.who++sgT kCom::(sdW sAct p.act++sgT kCom::sdW sRes p.what)
theorem hdK_0 (p:Po):hdK p (0+1)=hdK p 0++sdW (sdN 0) (sdS p 0):=rfl
theorem hdK_next (p:Po){k:Nat}(h:0<k)(hk:k<3):hdK p (k+1)=(hdK p k++[sgT kCom])++sdW (sdN k) (sdS p k):=by
 have hc:k=1∨k=2:=by omega
 rcases hc with rfl | rfl<;>simp[hdK,sdN,sdS]
theorem sdW_len (v:ByteArray)(s:Sco):(sdW v s).length≤7:=by
 unfold sdW scW
 repeat' split
 all_goals simp[uidW]
theorem hdK_len (p:Po)(k:Nat):(hdK p k).length≤24:=by
 have a:=sdW_len sPrin p.who
 have b:=sdW_len sAct p.act
 have c:=sdW_len sRes p.what
 unfold hdK
 repeat' split
 all_goals (simp;try omega)
def hd0 (p:Po):List Tk:=[nmT p.nm,sgT kCol,nmT (if p.fb then kForbid else kPermit),sgT kOp]
theorem hdW_all (p:Po):hdW p=(hd0 p++hdK p 3)++[sgT kCl]:=by simp[hdW,hd0,hdK]
section
variable (p:Po) (pc:Option Addr) (cc:Nat) (w:World) (B:Nat) (v:Value) (h:PW w B v [])
include h
theorem phead_any:
 Calls Tryz.prog 18 #[.pointer (some ⟨B,0,none⟩),poV p pc cc] w fun en w'=>en= .returned (.tuple #[])∧Pw B (hdW p) w w':=by
 obtain⟨V,hV⟩:∃V,V=w.alloc (.cells (poC p pc cc) 28):=⟨_,rfl⟩
 have hbV:Below w.heap.size w V:=by rw[hV];exact kqx
 have HW:Hid (KP B w V):=KP.of_below hbV (Nat.le_of_lt h.lt)
 have P0:Pw B [] V V:=Pw.refl (h.up hbV)
 have HBk:Hid (∀w',KP B V w'→Blk w' w.heap.size (poC p pc cc) 28):=fun w' hk=>by
  have hb:Blk V w.heap.size (poC p pc cc) 28:=by rw[hV];exact Blk.new w _ _ rfl
  exact hk.blk (by decide) (by decide) (by decide) hb
 have HU:Hid (hdW p=(hd0 p++hdK p 3)++[sgT kCl]):=hdW_all p
 have P1:=P0.add 1 p.nm (by simp)
 have HX:=po_cells (HBk.out V (KP.refl _ _))
 obtain⟨x0,x1,_⟩:=HX
 have HSD:=fun W=>sidesOf_any p pc cc W
 unfold poC at hV
 unfold poV at *
 clear h P0
 go_enter Tryz.func18,Tryz.ntmps18
 go_wp2_with fail
 rw[←hV]
 clear hV
 refine P1.mono ?_
 rintro _ w1 ⟨rfl,p1⟩
 clear P1 x0 x1
 have P2:=p1.add 5 ⟨#[58]⟩ (by simp)
 go_wp2_with fail
 refine P2.mono ?_
 rintro _ w2 ⟨rfl,p2⟩
 clear P2 p1
 obtain⟨_,x1,_⟩:=po_cells (HBk.out w2 p2.2)
 by_cases hfb:p.fb=true
 · have HF:Hid (p.fb=true):=hfb
   have P3:=p2.add 1 ⟨#[102,111,114,98,105,100]⟩ (by simp)
   rw[hfb]at x1
   clear hfb
   clear p2
   go_wp2_with fail
   refine P3.mono ?_
   rintro _ w3 ⟨rfl,p3⟩
   clear P3 x1
   have P4:=p3.add 5 ⟨#[40]⟩ (by simp)
   go_wp2_with fail
   refine P4.mono ?_
   rintro _ w4 ⟨rfl,p4⟩
   clear P4 p3
   have H4:Hid (Pw B (hd0 p++hdK p 0) V w4):=by
    show Pw B (hd0 p++hdK p 0) V w4
    unfold hd0
    rw[HF.out]
    exact p4
   obtain⟨x0,x1,x2,x3,x4,x5,x6,x7,x8,x9,x10,x11,x12,x13,x14⟩:=po_cells (HBk.out w4 p4.2)
   clear p4
   go_wp2_with fail
   refine(HSD _).mono ?_
   rintro _ w5 ⟨⟨bs,rfl,hsd⟩,hb5⟩
   have H5:Hid (Pw B (hd0 p++hdK p 0) V w5):=H4.out.up hb5
   have HSB:Hid (∀w',KP B w5 w'→Blk w' bs (sidesC p) 87):=fun w' hk=>hk.blk (by decide) (by decide) (by decide) hsd
   clear H4 hsd hb5 x0 x1 x2 x3 x4 x5 x6 x7 x8 x9 x10 x11 x12 x13 x14 HSD
   go_wp2
   go_loopw [23] (fun i wr=>∃k:Nat,k≤3∧i= .int .i64 k∧Pw B (hd0 p++hdK p k) V wr∧KP B w5 wr) (fun i _=>3-(intOf i).toNat)
   case atStart=>exact⟨0,by omega,rfl,H5.out,KP.refl _ _⟩
   case round=>
    obtain⟨k,hk,rfl,hp,hkp⟩:=hrel
    have hln:(hd0 p++hdK p k).length≤28:=by have:=hdK_len p k;simp[hd0];omega
    by_cases hlt:k<3
    · have i1:(k:Int)<3:=by omega
      obtain⟨y0,y1,y2,y3,y4⟩:=sides_at (HSB.out wr hkp) hlt
      have hbl:bs<wr.heap.size:=(HSB.out wr hkp).lt
      have HL:Hid (Blk (wr.alloc (.cells #[.int .i64 (sdS p k).op,.string (sdS p k).ty,.string (sdS p k).u.t,.string (sdS p k).u.i,.string (sdN k)] 87)) wr.heap.size #[.int .i64 (sdS p k).op,.string (sdS p k).ty,.string (sdS p k).u.t,.string (sdS p k).u.i,.string (sdN k)] 87):=Blk.new _ _ _ rfl
      have HKP:Hid (KP B w5 wr):=hkp
      have hBw:B≤wr.heap.size:=Nat.le_of_lt (hp.1.elim fun _ h=>h.lt)
      have hq:Pw B (hd0 p++hdK p k) V (wr.alloc (.cells #[.int .i64 (sdS p k).op,.string (sdS p k).ty,.string (sdS p k).u.t,.string (sdS p k).u.i,.string (sdN k)] 87)):=hp.up kqx
      have HKA:Hid (KP B wr (wr.alloc (.cells #[.int .i64 (sdS p k).op,.string (sdS p k).ty,.string (sdS p k).u.t,.string (sdS p k).u.i,.string (sdN k)] 87))):=KP.of_below kqx hBw
      by_cases hk0:k=0
      · subst hk0
        have HN:Hid (hd0 p++hdK p (0+1)=(hd0 p++hdK p 0)++sdW (sdN 0) (sdS p 0)):=by show _=_;rw[hdK_0,List.append_assoc]
        have PS:=hq.self.side (sdS p 0) (sdN 0) (by omega)
        have HQ:Hid (Pw B (hd0 p++hdK p 0) V _):=hq
        clear hq hp hkp
        unfold sdV at PS
        generalize sdS p 0=s at *
        generalize sdN 0=nm at *
        go_wp2_with fail
        refine PS.mono ?_
        rintro _ w6 ⟨rfl,p6⟩
        have H6:Hid (Pw B (hd0 p++hdK p (0+1)) V w6):=by rw[HN.out];exact HQ.out.then p6
        have HK6:Hid (KP B w5 w6):=HKP.out.trans (HKA.out.trans p6.2)
        clear PS p6
        go_wp2
        go_roundw
        case rel=>exact⟨0+1,by omega,by go_num,H6.out,HK6.out⟩
        case measure=>simp[intOf]
      · have i2:(0:Int)<(k:Int):=by omega
        have HN:Hid (hd0 p++hdK p (k+1)=((hd0 p++hdK p k)++[sgT kCom])++sdW (sdN k) (sdS p k)):=by show _=_;rw[hdK_next p (by omega) hlt];simp
        have PA:=hq.self.add 5 ⟨#[44]⟩ (by omega)
        have HQ:Hid (Pw B (hd0 p++hdK p k) V _):=hq
        clear hq hp hkp hk0
        generalize sdS p k=s at *
        generalize sdN k=nm at *
        go_wp2_with fail
        refine PA.mono ?_
        rintro _ w6 ⟨rfl,p6⟩
        have HB6:=p6.2.blk (by decide) (by decide) (by decide) HL.out
        have z0:w6.cell? ⟨wr.heap.size,0,none⟩=some (.int .i64 s.op):=HB6.cell 0
        have z1:w6.cell? ⟨wr.heap.size,1,none⟩=some (.string s.ty):=HB6.cell 1
        have z2:w6.cell? ⟨wr.heap.size,2,none⟩=some (.string s.u.t):=HB6.cell 2
        have z3:w6.cell? ⟨wr.heap.size,3,none⟩=some (.string s.u.i):=HB6.cell 3
        have z4:w6.cell? ⟨wr.heap.size,4,none⟩=some (.string nm):=HB6.cell 4
        have H6:Hid (Pw B ((hd0 p++hdK p k)++[sgT kCom]) V w6):=HQ.out.then p6
        have HK6:Hid (KP B w5 w6):=HKP.out.trans (HKA.out.trans p6.2)
        have PS:=p6.self.side s nm (by simp at hln ⊢; omega)
        clear PA p6 HB6
        unfold sdV at PS
        go_wp2_with fail
        refine PS.mono ?_
        rintro _ w7 ⟨rfl,p7⟩
        have H7:Hid (Pw B (hd0 p++hdK p (k+1)) V w7):=by rw[HN.out];exact H6.out.then p7
        have HK7:Hid (KP B w5 w7):=HK6.out.trans p7.2
        clear PS p7 z0 z1 z2 z3 z4
        go_wp2
        go_roundw
        case rel=>exact⟨k+1,by omega,by go_num,H7.out,HK7.out⟩
        case measure=>simp[intOf];omega
    · have i1:¬(k:Int)<3:=by omega
      obtain rfl:k=3:=by omega
      have HP:Hid (Pw B (hd0 p++hdK p 3) V wr):=hp
      have PE:=hp.add 5 ⟨#[41]⟩ (by omega)
      clear hp hkp
      go_wp2_with fail
      refine PE.mono ?_
      rintro _ w6 ⟨rfl,p6⟩
      have H6:Hid (Pw B (hdW p) V w6):=by rw[HU.out];exact p6
      clear p6 PE
      go_wp2
      go_end0
      exact⟨rfl,H6.out.1,HW.out.trans H6.out.2⟩
 · replace hfb:p.fb=false:=by simpa using hfb
   have HF:Hid (p.fb=false):=hfb
   have P3:=p2.add 1 ⟨#[112,101,114,109,105,116]⟩ (by simp)
   rw[hfb]at x1
   clear hfb
   clear p2
   go_wp2_with fail
   refine P3.mono ?_
   rintro _ w3 ⟨rfl,p3⟩
   clear P3 x1
   have P4:=p3.add 5 ⟨#[40]⟩ (by simp)
   go_wp2_with fail
   refine P4.mono ?_
   rintro _ w4 ⟨rfl,p4⟩
   clear P4 p3
   have H4:Hid (Pw B (hd0 p++hdK p 0) V w4):=by
    show Pw B (hd0 p++hdK p 0) V w4
    unfold hd0
    rw[HF.out]
    exact p4
   obtain⟨x0,x1,x2,x3,x4,x5,x6,x7,x8,x9,x10,x11,x12,x13,x14⟩:=po_cells (HBk.out w4 p4.2)
   clear p4
   go_wp2_with fail
   refine(HSD _).mono ?_
   rintro _ w5 ⟨⟨bs,rfl,hsd⟩,hb5⟩
   have H5:Hid (Pw B (hd0 p++hdK p 0) V w5):=H4.out.up hb5
   have HSB:Hid (∀w',KP B w5 w'→Blk w' bs (sidesC p) 87):=fun w' hk=>hk.blk (by decide) (by decide) (by decide) hsd
   clear H4 hsd hb5 x0 x1 x2 x3 x4 x5 x6 x7 x8 x9 x10 x11 x12 x13 x14 HSD
   go_wp2
   go_loopw [23] (fun i wr=>∃k:Nat,k≤3∧i= .int .i64 k∧Pw B (hd0 p++hdK p k) V wr∧KP B w5 wr) (fun i _=>3-(intOf i).toNat)
   case atStart=>exact⟨0,by omega,rfl,H5.out,KP.refl _ _⟩
   case round=>
    obtain⟨k,hk,rfl,hp,hkp⟩:=hrel
    have hln:(hd0 p++hdK p k).length≤28:=by have:=hdK_len p k;simp[hd0];omega
    by_cases hlt:k<3
    · have i1:(k:Int)<3:=by omega
      obtain⟨y0,y1,y2,y3,y4⟩:=sides_at (HSB.out wr hkp) hlt
      have hbl:bs<wr.heap.size:=(HSB.out wr hkp).lt
      have HL:Hid (Blk (wr.alloc (.cells #[.int .i64 (sdS p k).op,.string (sdS p k).ty,.string (sdS p k).u.t,.string (sdS p k).u.i,.string (sdN k)] 87)) wr.heap.size #[.int .i64 (sdS p k).op,.string (sdS p k).ty,.string (sdS p k).u.t,.string (sdS p k).u.i,.string (sdN k)] 87):=Blk.new _ _ _ rfl
      have HKP:Hid (KP B w5 wr):=hkp
      have hBw:B≤wr.heap.size:=Nat.le_of_lt (hp.1.elim fun _ h=>h.lt)
      have hq:Pw B (hd0 p++hdK p k) V (wr.alloc (.cells #[.int .i64 (sdS p k).op,.string (sdS p k).ty,.string (sdS p k).u.t,.string (sdS p k).u.i,.string (sdN k)] 87)):=hp.up kqx
      have HKA:Hid (KP B wr (wr.alloc (.cells #[.int .i64 (sdS p k).op,.string (sdS p k).ty,.string (sdS p k).u.t,.string (sdS p k).u.i,.string (sdN k)] 87))):=KP.of_below kqx hBw
      by_cases hk0:k=0
      · subst hk0
        have HN:Hid (hd0 p++hdK p (0+1)=(hd0 p++hdK p 0)++sdW (sdN 0) (sdS p 0)):=by show _=_;rw[hdK_0,List.append_assoc]
        have PS:=hq.self.side (sdS p 0) (sdN 0) (by omega)
        have HQ:Hid (Pw B (hd0 p++hdK p 0) V _):=hq
        clear hq hp hkp
        unfold sdV at PS
        generalize sdS p 0=s at *
        generalize sdN 0=nm at *
        go_wp2_with fail
        refine PS.mono ?_
        rintro _ w6 ⟨rfl,p6⟩
        have H6:Hid (Pw B (hd0 p++hdK p (0+1)) V w6):=by rw[HN.out];exact HQ.out.then p6
        have HK6:Hid (KP B w5 w6):=HKP.out.trans (HKA.out.trans p6.2)
        clear PS p6
        go_wp2
        go_roundw
        case rel=>exact⟨0+1,by omega,by go_num,H6.out,HK6.out⟩
        case measure=>simp[intOf]
      · have i2:(0:Int)<(k:Int):=by omega
        have HN:Hid (hd0 p++hdK p (k+1)=((hd0 p++hdK p k)++[sgT kCom])++sdW (sdN k) (sdS p k)):=by show _=_;rw[hdK_next p (by omega) hlt];simp
        have PA:=hq.self.add 5 ⟨#[44]⟩ (by omega)
        have HQ:Hid (Pw B (hd0 p++hdK p k) V _):=hq
        clear hq hp hkp hk0
        generalize sdS p k=s at *
        generalize sdN k=nm at *
        go_wp2_with fail
        refine PA.mono ?_
        rintro _ w6 ⟨rfl,p6⟩
        have HB6:=p6.2.blk (by decide) (by decide) (by decide) HL.out
        have z0:w6.cell? ⟨wr.heap.size,0,none⟩=some (.int .i64 s.op):=HB6.cell 0
        have z1:w6.cell? ⟨wr.heap.size,1,none⟩=some (.string s.ty):=HB6.cell 1
        have z2:w6.cell? ⟨wr.heap.size,2,none⟩=some (.string s.u.t):=HB6.cell 2
        have z3:w6.cell? ⟨wr.heap.size,3,none⟩=some (.string s.u.i):=HB6.cell 3
        have z4:w6.cell? ⟨wr.heap.size,4,none⟩=some (.string nm):=HB6.cell 4
        have H6:Hid (Pw B ((hd0 p++hdK p k)++[sgT kCom]) V w6):=HQ.out.then p6
        have HK6:Hid (KP B w5 w6):=HKP.out.trans (HKA.out.trans p6.2)
        have PS:=p6.self.side s nm (by simp at hln ⊢; omega)
        clear PA p6 HB6
        unfold sdV at PS
        go_wp2_with fail
        refine PS.mono ?_
        rintro _ w7 ⟨rfl,p7⟩
        have H7:Hid (Pw B (hd0 p++hdK p (k+1)) V w7):=by rw[HN.out];exact H6.out.then p7
        have HK7:Hid (KP B w5 w7):=HK6.out.trans p7.2
        clear PS p7 z0 z1 z2 z3 z4
        go_wp2
        go_roundw
        case rel=>exact⟨k+1,by omega,by go_num,H7.out,HK7.out⟩
        case measure=>simp[intOf];omega
    · have i1:¬(k:Int)<3:=by omega
      obtain rfl:k=3:=by omega
      have HP:Hid (Pw B (hd0 p++hdK p 3) V wr):=hp
      have PE:=hp.add 5 ⟨#[41]⟩ (by omega)
      clear hp hkp
      go_wp2_with fail
      refine PE.mono ?_
      rintro _ w6 ⟨rfl,p6⟩
      have H6:Hid (Pw B (hdW p) V w6):=by rw[HU.out];exact p6
      clear p6 PE
      go_wp2
      go_end0
      exact⟨rfl,H6.out.1,HW.out.trans H6.out.2⟩
end
set_option linter.unusedSectionVars false
theorem append_tokQ (w:World){ops:Array Oper}{rest:List Oper}{o:Oper}{a:Act}{Q:Exit→Act→World→Prop}(hgd:o.guard=none)(s x:Operand)
 (ho:o.op= .call { callee:=.builtin .append,args:= #[s,x],argTypes:= #[49,49] })
 (base:Nat) (v:Value) (L:List Tk) (hs:a.eval s=v) (hown:OTk w base v L) (t:Tk) (hx:a.eval x= .slice (some ⟨w.heap.size,0,none⟩) 1 1)
 (hlen:L.length+1≤1099511627776) (hbase:base≤w.heap.size)
 (h:∀v' w',OTk w' base v' (L++[t])→KW base w w'→Keep (fun b=>v.ownBlock=some b) w w'→(∀g,v'.ownBlock=some g→v.ownBlock=some g∨w.heap.size≤g)→wpList Tryz.prog ops Q rest (a.put o.dst v') w'):wpList Tryz.prog ops Q (o::rest) a (w.alloc (.cells #[.int .i64 t.kind,.string t.s,.int .i64 t.at_] 78)):=by
 obtain⟨i0,hi,hz0,hz1,hz2⟩:=info_parts Tryz.infoTok
 refine wpList_append_own_at _ hgd s x 49 ho base 78 i0 _ 3 32 Tryz.underlying49 hi hz0 hz1 hz2 rfl (by decide) v L.length (tcells L) hs (hown.alloc _) ⟨w.heap.size,0,none⟩ 1 1 [.int .i64 t.kind,.string t.s,.int .i64 t.at_] hx rfl ?_ ?_ ?_ ?_ ?_ ?_
 · intro j u hj
   match j,hj with
   | 0,hj=>simp at hj;subst hj;simp[Addr.add]
   | 1,hj=>simp at hj;subst hj;simp[Addr.add]
   | 2,hj=>simp at hj;subst hj;simp[Addr.add]
 · intro u hu;simp at hu;rcases hu with rfl | rfl | rfl<;>rfl
 · unfold maxLen;omega
 · omega
 · simp;omega
 · intro v' w' h1 h2 _ h3
   have hb0:∀b,b<w.heap.size→(w.alloc (.cells #[.int .i64 t.kind,.string t.s,.int .i64 t.at_] 78)).heap[b]? =w.heap[b]? :=fun b hb=>((Below.refl w.heap.size w).alloc (Nat.le_refl _) _).block b hb
   have hsz:(w.alloc (.cells #[.int .i64 t.kind,.string t.s,.int .i64 t.at_] 78)).heap.size=w.heap.size+1:=by simp
   refine h v' w' ?_ ⟨?_,?_⟩ ⟨h2.os,h2.tape,h2.output,by have:=h2.size;omega,fun b hb hne=>(h2.block b (by omega) (fun e=>hne e.symm)).trans (hb0 b hb)⟩ (fun g hg=>?_)
   · unfold OTk;rw[tcells_append,List.length_append];exact h1
   · refine((Below.refl base w).alloc hbase (.cells #[.int .i64 t.kind,.string t.s,.int .i64 t.at_] 78)).grown h2 (by simp;omega) ?_
     intro k hk
     exact(World.ownsRow.lt hown k hk).1
   · intro b f hf _ hty
     refine(h2.block b (by have:=hty.lt;simp;omega) (fun e=>?_)).trans (hb0 b hty.lt)
     rcases hown.2 with⟨hv,_⟩ | ⟨g,cap,cur,hv,hb,hgg,_⟩
     · rw[hv]at e;simp[Value.ownBlock]at e
     · rw[hv]at e
       simp[Value.ownBlock]at e
       subst e
       obtain⟨c1,f1,g1⟩:=hty
       rw[hgg]at g1
       injection g1 with g1
       injection g1 with _ g1 _
       exact hf g1.symm
   · rcases h3 with h3 | h3
     · exact .inl (by rw[←h3];exact hg)
     · rw[h3]at hg;injection hg with hg;exact .inr (by omega)
def PwQ (B:Nat)(L:List Tk)(q:Option Addr)(M:List Tk)(a b:World):Prop:=(∃v',PW b B v' L∧∀x,q=some x→x.block≠B∧v'.ownBlock≠some x.block)∧TKL b q M∧KP B a b
theorem TKL.keepQ {S:Nat→Prop}{w w':World}{q:Option Addr}{M:List Tk}(h:TKL w q M)(k:Keep S w w')(hq:∀x,q=some x→¬S x.block):TKL w' q M:=by
 rcases h with h | ⟨b,off,h1,h2,h3⟩
 · exact .inl h
 · have hn:¬S b:=hq ⟨b,off,none⟩ h1
   refine .inr ⟨b,off,h1,Nat.lt_of_lt_of_le h2 k.size,fun i x hx=>?_⟩
   have q:∀o,w'.cell? ⟨b,o,none⟩=w.cell? ⟨b,o,none⟩:=fun o=>k.cell (p:=⟨b,o,none⟩) h2 hn
   simp only[q]
   exact h3 i x hx
theorem TKL.addr {w:World}{q:Option Addr}{M:List Tk}(h:TKL w q M)(hne:M≠[]):∃b o,q=some ⟨b,o,none⟩∧b<w.heap.size:=by
 rcases h with h | ⟨b,o,e,h2,_⟩
 · exact absurd h hne
 · exact⟨b,o,e,h2⟩
theorem PwQ.add {B:Nat}{L M:List Tk}{q:Option Addr}{a w:World}(hq:PwQ B L q M a w)(hM:M≠[])(kd:Int)(s:ByteArray)(hl:L.length≤1000000):
 Calls Tryz.prog 42 #[.pointer (some ⟨B,0,none⟩),.int .i64 kd,.string s] w fun en w'=>en= .returned (.tuple #[])∧PwQ B (L++[⟨kd,s,0⟩]) q M a w':=by
 obtain⟨⟨v,h,hap⟩,ht,hkp⟩:=hq
 obtain⟨bq,oq,rfl,hbq⟩:=ht.addr hM
 obtain⟨hn1,hn2⟩:=hap _ rfl
 have HT:Hid (TKL w (some ⟨bq,oq,none⟩) M):=ht
 have HKP:Hid (KP B a w):=hkp
 have HP:Hid (PW w B v L):=h
 have HN:Hid (bq≠B∧v.ownBlock≠some bq):=⟨hn1,hn2⟩
 have c0:=h.c0
 have hlt:=h.lt
 clear hap ht hkp hn1 hn2
 go_enter Tryz.func42,Tryz.ntmps42
 go_wp2_with (at_builtin;refine append_tokQ w rfl (.tmp 10) (.tmp 14) rfl (B+1) v L rfl h.own ⟨kd,s,0⟩ rfl (by omega) (by omega) ?_;intro v1 w1 ho1 hk1 hK1 hv1;obtain⟨qq,cq,ev,_⟩:=ho1.slice;subst ev;have b1:w1.heap[B]? =_:=(hk1.bel.block B (Nat.lt_succ_self _)).trans h.blk;have f1:w1.frozen? ⟨B,0,none⟩=false:=(by simp[World.frozen?, b1]);have d1:w1.cell? ⟨B,0,none⟩=some v:=(by simp[World.cell?, b1]))
 go_end0
 have ho2:OTk w1 (B+1) (.slice qq (L.length+1) cq) (L++[⟨kd,s,0⟩]):=by simpa using ho1
 obtain⟨k1,k2⟩:=HP.out.setTs hk1 ho2
 refine⟨rfl,⟨_,k1,fun x hx=>?_⟩,?_,HKP.out.trans k2⟩
 · cases hx
   refine⟨HN.out.1,fun e=>?_⟩
   rcases hv1 bq (by simpa using e)with h5 | h5
   · exact HN.out.2 h5
   · omega
 · refine(HT.out.keepQ hK1 (fun x hx e=>?_)).keepQ (S:=fun x=>x=B) ⟨rfl,rfl,rfl,by simp,fun x hx e=>Below.heap_setCell w1 ⟨B,0,none⟩ _ x e⟩ (fun x hx e=>?_)
   · cases hx;exact HN.out.2 e
   · cases hx;exact HN.out.1 e
section
variable (w:World) (B:Nat) (v:Value) (L:List Tk) (c:Cnd) (pe:Option Addr) (ce:Nat) (h:PW w B v L) (hl:L.length≤100000) (hA:AK0 w c.ex pe ce) (hx:xfault c.ex=0) (ht:Tab w) (hN:∀x∈c.ex,n64 x)
include h hl hA hx ht hN
theorem pcond_err (h300:300<(wrd c.ex).length):
 Calls Tryz.prog 19 #[.pointer (some ⟨B,0,none⟩),cndV c pe ce] w fun en w'=>en= .returned (.iface 41 (.int .i64 4))∧Below w.heap.size w w':=by
 obtain⟨un,ex⟩:=c
 simp only at hA hx hN h300
 obtain⟨V,hV⟩:∃V,V=w.alloc (.cells #[.bool un,.slice pe ex.length ce] 61):=⟨_,rfl⟩
 have hbV:Below w.heap.size w V:=by rw[hV];exact kqx
 have hb:Blk V w.heap.size #[.bool un,.slice pe ex.length ce] 61:=by rw[hV];exact Blk.new w _ _ rfl
 have HP:=(print_goodF insOk ex pe ce V (hA.up hbV).nl (Nat.le_trans hA.le hA.cm) hx (ht.up hbV) hN).mono (R':=fun en w'=>en= .returned (.tuple #[.slice none 0 0,.iface 41 (.int .i64 4)])∧Below V.heap.size V w') (fun en w' h=>by rw[if_pos h300]at h;exact h)
 obtain⟨n,hn⟩:∃n,n=ex.length:=⟨_,rfl⟩
 unfold cndV
 simp only
 rw[←hn]at hV hb HP ⊢
 have x0:V.cell? ⟨w.heap.size,0,none⟩=some (.bool un):=hb.cell 0
 have x1:V.cell? ⟨w.heap.size,1,none⟩=some (.slice pe n ce):=hb.cell 1
 clear h hA hx ht hN hn hb h300
 go_enter Tryz.func19,Tryz.ntmps19
 go_wp2_with fail
 rw[←hV]
 refine HP.mono ?_
 rintro _ w1 ⟨rfl,hb1⟩
 clear hV
 go_wp2
 go_ret
 exact⟨rfl,kqt hbV hb1⟩
theorem pcond_ok (h300:¬ 300<(wrd c.ex).length):
 Calls Tryz.prog 19 #[.pointer (some ⟨B,0,none⟩),cndV c pe ce] w fun en w'=>en= .returned .nilIface∧Pw B (L++cdW c) w w':=by
 obtain⟨un,ex⟩:=c
 simp only at hA hx hN h300
 obtain⟨V,hV⟩:∃V,V=w.alloc (.cells #[.bool un,.slice pe ex.length ce] 61):=⟨_,rfl⟩
 have hbV:Below w.heap.size w V:=by rw[hV];exact kqx
 have hb:Blk V w.heap.size #[.bool un,.slice pe ex.length ce] 61:=by rw[hV];exact Blk.new w _ _ rfl
 have hd:=parse_print hx hN (by omega)
 have hne:wrd ex≠[]:=fun e=>by rw[e]at hd;have h0:parseL []= .error (0,1):=by kernel_rfl
                               rw[h0]at hd;cases hd
 have HP:=(print_goodF insOk ex pe ce V (hA.up hbV).nl (Nat.le_trans hA.le hA.cm) hx (ht.up hbV) hN).mono (R':=fun en w'=>(∃q cc,en= .returned (.tuple #[.slice q (wrd ex).length cc,.nilIface])∧TKL w' q (wrd ex)∧(wrd ex).length≤cc∧cc≤maxLen∧∀a,q=some a→V.heap.size≤a.block)∧Below V.heap.size V w') (fun en w' h=>by rw[if_neg h300]at h;exact h)
 have HW:Hid (KP B w V):=KP.of_below hbV (Nat.le_of_lt h.lt)
 have HB:Hid (∀w',KP B V w'→w'.cell? ⟨w.heap.size,0,none⟩=some (.bool un)):=fun w' hk=>(hk.blk (by decide) (by decide) (by decide) hb).cell 0
 have HL:Hid (∃v,PW V B v L):=⟨v,h.up hbV⟩
 have HU:Hid (∀b:Bool,b=un→L++cdW ⟨un,ex⟩=(((L++[⟨1,if b then kUnless else kWhen,0⟩])++[⟨5,⟨#[123]⟩,0⟩])++wrd ex)++[⟨5,⟨#[125]⟩,0⟩]):=fun b e=>by subst e;simp[cdW,nmT,sgT,kBo,kBc]
 have HBV:Hid (B<V.heap.size∧∀g,v.ownBlock=some g→g<V.heap.size):=⟨Nat.lt_of_lt_of_le h.lt hbV.size,fun g hg=>Nat.lt_of_lt_of_le (h.own.lt g hg).2 hbV.size⟩
 have HPV:Hid (PW V B v L):=h.up hbV
 obtain⟨n,hn⟩:∃n,n=ex.length:=⟨_,rfl⟩
 unfold cndV
 simp only
 rw[←hn]at hV hb HP ⊢
 obtain⟨M,hM⟩:∃M,M=wrd ex:=⟨_,rfl⟩
 have HM3:Hid (M.length≤300):=by show _≤_;rw[hM];omega
 rw[←hM]at HP HU hne
 have x0:V.cell? ⟨w.heap.size,0,none⟩=some (.bool un):=hb.cell 0
 have x1:V.cell? ⟨w.heap.size,1,none⟩=some (.slice pe n ce):=hb.cell 1
 have HNE:Hid (M≠[]):=hne
 clear h hA hx ht hN hn hb h300 hd hM hne
 go_enter Tryz.func19,Tryz.ntmps19
 go_wp2_with fail
 rw[←hV]
 refine HP.mono ?_
 rintro _ w1 ⟨⟨q,cc,rfl,ht1,hc1,hc2,hfr⟩,hb1⟩
 clear hV x0 x1
 have q1:PwQ B L q M V w1:=⟨⟨v,HPV.out.up hb1,fun x hx=>⟨fun e=>by have h1:=hfr x hx;have h2:=HBV.out.1;omega,fun e=>by have h1:=hfr x hx;have h2:=HBV.out.2 _ e;omega⟩⟩,ht1,KP.of_below hb1 (Nat.le_of_lt HBV.out.1)⟩
 have x0:=HB.out w1 q1.2.2
 obtain⟨m,hm⟩:∃m,m=M.length:=⟨_,rfl⟩
 have HMm:Hid (m=M.length):=hm
 rw[←hm]
 clear HP ht1 hc1 hc2 hfr hb1 hm HPV HBV HL
 cases un
 · have P2:=q1.add HNE.out 1 ⟨#[119,104,101,110]⟩ (by omega)
   clear q1
   go_wp2_with fail
   refine P2.mono ?_
   rintro _ w2 ⟨rfl,q2⟩
   clear P2 x0
   have P3:=q2.add HNE.out 5 ⟨#[123]⟩ (by simp;omega)
   clear q2
   go_wp2_with fail
   refine P3.mono ?_
   rintro _ w3 ⟨rfl,q3⟩
   clear P3
   have HE:Hid (L++cdW ⟨false,ex⟩=(((L++[⟨1,⟨#[119,104,101,110]⟩,0⟩])++[⟨5,⟨#[123]⟩,0⟩])++M)++[⟨5,⟨#[125]⟩,0⟩]):=by
    have:=HU.out false rfl
    simp only[if_true,if_false,Bool.false_eq_true,kUnless,kWhen]at this
    exact this
   obtain⟨L3,hL3⟩:∃L3,L3=(L++[⟨1,⟨#[119,104,101,110]⟩,0⟩])++[⟨5,⟨#[123]⟩,0⟩]:=⟨_,rfl⟩
   rw[←hL3]at q3
   have HL3:Hid (L3.length≤100002∧L++cdW ⟨false,ex⟩=(L3++M)++[⟨5,⟨#[125]⟩,0⟩]):=⟨by rw[hL3];simp;omega,by rw[HE.out,hL3]⟩
   clear hL3 HE HU
   obtain⟨⟨v3,h3,hap3⟩,ht3,hk3⟩:=q3
   obtain⟨qv,cv,hv3,_⟩:=h3.own.slice
   obtain⟨n3,hn3⟩:∃n,n=L3.length:=⟨_,rfl⟩
   have HN3:Hid (n3=L3.length):=hn3
   rw[←hn3]at hv3
   subst hv3
   have c3:=h3.c0
   have hlt3:=h3.lt
   have HP3:Hid (PW w3 B (.slice qv n3 cv) L3):=h3
   have HT3:Hid (TKL w3 q M):=ht3
   have HK3:Hid (KP B V w3):=hk3
   clear hap3 ht3 hk3 h3 hn3
   go_wp2_with (first | (at_builtin;refine Hid.out ?_))
   show wpList _ _ _ _ _ _
   refine append_toksK w3 rfl (.tmp 28) (.tmp 29) rfl (B+1) (.slice qv n3 cv) L3 rfl HP3.out.own M HNE.out m HMm.out.symm q cc HT3.out rfl (by have:=HM3.out;have:=HL3.out.1;omega) (by omega) ?_
   intro v1 w4 ho1 hk1
   obtain⟨qq,cq,ev,_⟩:=ho1.slice
   obtain⟨n4,hn4⟩:∃n,n=(L3++M).length:=⟨_,rfl⟩
   rw[←hn4]at ev
   subst ev
   have b1:w4.heap[B]? =_:=(hk1.bel.block B (Nat.lt_succ_self _)).trans HP3.out.blk
   have f1:w4.frozen? ⟨B,0,none⟩=false:=by simp[World.frozen?, b1]
   have d1:w4.cell? ⟨B,0,none⟩=some (.slice qv n3 cv):=by simp[World.cell?, b1]
   obtain⟨k1,k2⟩:=HP3.out.setTs hk1 ho1
   have P5:=Pw.add (a:=V) (B:=B) (L:=L3++M) (b:=w4.setCell ⟨B,0,none⟩ (.slice qq n4 cq)) ⟨⟨_,k1⟩,HK3.out.trans k2⟩ 5 ⟨#[125]⟩ (by have:=HM3.out;have:=HL3.out.1;simp;omega)
   clear b1 k1 k2 ho1 hk1 hn4 c3
   go_wp2_with fail
   refine P5.mono ?_
   rintro _ w6 ⟨rfl,p6⟩
   have H6:Hid (Pw B (L++cdW ⟨false,ex⟩) V w6):=by rw[HL3.out.2];exact p6
   clear p6 P5
   go_wp2
   go_ret
   exact⟨rfl,H6.out.1,HW.out.trans H6.out.2⟩
 · have P2:=q1.add HNE.out 1 ⟨#[117,110,108,101,115,115]⟩ (by omega)
   clear q1
   go_wp2_with fail
   refine P2.mono ?_
   rintro _ w2 ⟨rfl,q2⟩
   clear P2 x0
   have P3:=q2.add HNE.out 5 ⟨#[123]⟩ (by simp;omega)
   clear q2
   go_wp2_with fail
   refine P3.mono ?_
   rintro _ w3 ⟨rfl,q3⟩
   clear P3
   have HE:Hid (L++cdW ⟨true,ex⟩=(((L++[⟨1,⟨#[117,110,108,101,115,115]⟩,0⟩])++[⟨5,⟨#[123]⟩,0⟩])++M)++[⟨5,⟨#[125]⟩,0⟩]):=by
    have:=HU.out true rfl
    simp only[if_true,if_false,Bool.false_eq_true,kUnless,kWhen]at this
    exact this
   obtain⟨L3,hL3⟩:∃L3,L3=(L++[⟨1,⟨#[117,110,108,101,115,115]⟩,0⟩])++[⟨5,⟨#[123]⟩,0⟩]:=⟨_,rfl⟩
   rw[←hL3]at q3
   have HL3:Hid (L3.length≤100002∧L++cdW ⟨true,ex⟩=(L3++M)++[⟨5,⟨#[125]⟩,0⟩]):=⟨by rw[hL3];simp;omega,by rw[HE.out,hL3]⟩
   clear hL3 HE HU
   obtain⟨⟨v3,h3,hap3⟩,ht3,hk3⟩:=q3
   obtain⟨qv,cv,hv3,_⟩:=h3.own.slice
   obtain⟨n3,hn3⟩:∃n,n=L3.length:=⟨_,rfl⟩
   have HN3:Hid (n3=L3.length):=hn3
   rw[←hn3]at hv3
   subst hv3
   have c3:=h3.c0
   have hlt3:=h3.lt
   have HP3:Hid (PW w3 B (.slice qv n3 cv) L3):=h3
   have HT3:Hid (TKL w3 q M):=ht3
   have HK3:Hid (KP B V w3):=hk3
   clear hap3 ht3 hk3 h3 hn3
   go_wp2_with (first | (at_builtin;refine Hid.out ?_))
   show wpList _ _ _ _ _ _
   refine append_toksK w3 rfl (.tmp 28) (.tmp 29) rfl (B+1) (.slice qv n3 cv) L3 rfl HP3.out.own M HNE.out m HMm.out.symm q cc HT3.out rfl (by have:=HM3.out;have:=HL3.out.1;omega) (by omega) ?_
   intro v1 w4 ho1 hk1
   obtain⟨qq,cq,ev,_⟩:=ho1.slice
   obtain⟨n4,hn4⟩:∃n,n=(L3++M).length:=⟨_,rfl⟩
   rw[←hn4]at ev
   subst ev
   have b1:w4.heap[B]? =_:=(hk1.bel.block B (Nat.lt_succ_self _)).trans HP3.out.blk
   have f1:w4.frozen? ⟨B,0,none⟩=false:=by simp[World.frozen?, b1]
   have d1:w4.cell? ⟨B,0,none⟩=some (.slice qv n3 cv):=by simp[World.cell?, b1]
   obtain⟨k1,k2⟩:=HP3.out.setTs hk1 ho1
   have P5:=Pw.add (a:=V) (B:=B) (L:=L3++M) (b:=w4.setCell ⟨B,0,none⟩ (.slice qq n4 cq)) ⟨⟨_,k1⟩,HK3.out.trans k2⟩ 5 ⟨#[125]⟩ (by have:=HM3.out;have:=HL3.out.1;simp;omega)
   clear b1 k1 k2 ho1 hk1 hn4 c3
   go_wp2_with fail
   refine P5.mono ?_
   rintro _ w6 ⟨rfl,p6⟩
   have H6:Hid (Pw B (L++cdW ⟨true,ex⟩) V w6):=by rw[HL3.out.2];exact p6
   clear p6 P5
   go_wp2
   go_ret
   exact⟨rfl,H6.out.1,HW.out.trans H6.out.2⟩
end
theorem okN_small {s:ByteArray}(h:okN s=true):s.size≤20:=by
 have h0:nfault s.data.toList=0:=by simpa[okN]using h
 unfold nfault at h0
 split at h0
 · split at h0
   · cases h0
   · rename_i hl;simp at hl;omega
 · cases h0
theorem okU_small {u:Ui}(h:okU u=true):u.t.size≤100∧u.i.size≤100:=by
 have h0:uf u=0:=by simpa[okU]using h
 have:=ufault_small h0
 simp at this
 omega
theorem uidW_small {u:Ui}(h:okU u=true):∀t∈uidW u,t.s.size≤100:=by
 obtain⟨h1,h2⟩:=okU_small h
 intro t ht
 simp only[uidW,List.mem_cons,List.not_mem_nil,or_false]at ht
 rcases ht with rfl | rfl | rfl
 · exact h1
 · show 2≤100;omega
 · exact h2
theorem sdW_small {b:Bool}{v:ByteArray}{s:Sco}(h:scOk b s=true)(hv:v.size≤100):∀t∈sdW v s,t.s.size≤100:=by
 intro t ht
 have hIn:kIn.size≤100:=by show 2≤100;omega
 have hIs:kIs.size≤100:=by show 2≤100;omega
 have hEq:kEq.size≤100:=by show 2≤100;omega
 unfold sdW at ht
 rcases List.mem_cons.1 ht with rfl | ht
 · exact hv
 unfold scW at ht
 unfold scOk at h
 by_cases a0:s.op=0
 · simp[a0]at ht
 rw[if_neg a0]at h
 by_cases a1:s.op=1∨s.op=2
 · rw[if_pos a1]at h
   simp only[Bool.and_eq_true]at h
   have hu:=uidW_small h.2
   rcases a1 with a1 | a1
   · rw[if_pos a1]at ht
     rcases List.mem_cons.1 ht with rfl | ht
     · exact hEq
     · exact hu t ht
   · rw[if_neg (by omega),if_pos a1]at ht
     rcases List.mem_cons.1 ht with rfl | ht
     · exact hIn
     · exact hu t ht
 rw[if_neg a1]at h
 by_cases a3:s.op=3
 · rw[if_pos a3]at h
   simp only[Bool.and_eq_true]at h
   have hn:=okN_small h.1
   rw[if_neg (by omega),if_neg (by omega),if_pos a3]at ht
   simp only[List.mem_cons,List.not_mem_nil,or_false]at ht
   rcases ht with rfl | rfl
   · exact hIs
   · show s.ty.size≤100;omega
 rw[if_neg a3]at h
 by_cases a4:s.op=4
 · rw[if_pos a4]at h
   simp only[Bool.and_eq_true]at h
   have hn:=okN_small h.1
   have hu:=uidW_small h.2
   rw[if_neg (by omega),if_neg (by omega),if_neg (by omega),if_pos a4]at ht
   rcases List.mem_cons.1 ht with rfl | ht
   · exact hIs
   rcases List.mem_cons.1 ht with rfl | ht
   · show s.ty.size≤100;omega
   rcases List.mem_cons.1 ht with rfl | ht
   · exact hIn
   · exact hu t ht
 rw[if_neg a4]at h
 by_cases a5:s.op=5∨s.op=6
 · rcases a5 with a5 | a5
   · rw[if_neg (by omega),if_neg (by omega),if_neg (by omega),if_neg (by omega),if_pos a5]at ht
     simp only[List.mem_cons,List.not_mem_nil,or_false]at ht
     rcases ht with rfl | rfl
     · exact hEq
     · exact hv
   · rw[if_neg (by omega),if_neg (by omega),if_neg (by omega),if_neg (by omega),if_neg (by omega),if_pos a5]at ht
     simp only[List.mem_cons,List.not_mem_nil,or_false]at ht
     rcases ht with rfl | rfl
     · exact hIn
     · exact hv
 · rw[if_neg a5]at h;cases h
theorem hdW_small {p:Po}(h:pof p=0):∀t∈hdW p,t.s.size≤100:=by
 obtain⟨h1,h2,h3,h4,_,_⟩:=pof_ways h
 have hn:p.nm.size≤20:=okN_small (by simpa[okN]using h1)
 have s1:=sdW_small (v:=sPrin) h2 (by show 9≤100;omega)
 have s2:=sdW_small (v:=sAct) h3 (by show 6≤100;omega)
 have s3:=sdW_small (v:=sRes) h4 (by show 8≤100;omega)
 intro t ht
 unfold hdW at ht
 simp only[List.mem_cons,List.mem_append,List.not_mem_nil,or_false]at ht
 rcases ht with rfl | rfl | rfl | rfl | ht | rfl | ht | rfl | ht | rfl
 · show p.nm.size≤100;omega
 · show 1≤100;omega
 · show(if p.fb=true then kForbid else kPermit).size≤100
   split
   · show 6≤100;omega
   · show 6≤100;omega
 · show 1≤100;omega
 · exact s1 t ht
 · show 1≤100;omega
 · exact s2 t ht
 · show 1≤100;omega
 · exact s3 t ht
 · show 1≤100;omega
theorem cdW_small {c:Cnd}(h:xfault c.ex=0)(hN:∀x∈c.ex,n64 x)(hl:¬ 300<(wrd c.ex).length):∀t∈cdW c,t.s.size≤100:=by
 obtain⟨_,hs,_⟩:=ok_parse (parse_print h hN (by omega))
 intro t ht
 unfold cdW at ht
 simp only[List.mem_cons,List.mem_append,List.not_mem_nil,or_false]at ht
 rcases ht with rfl | rfl | ht | rfl
 · show(if c.un=true then kUnless else kWhen).size≤100
   split
   · show 6≤100;omega
   · show 4≤100;omega
 · show 1≤100;omega
 · have h1:=spB_size (hs t ht)
   have h2:t.l.length=t.s.size:=by simp[Tk.l]
   omega
 · show 1≤100;omega
theorem hdW_len (p:Po):(hdW p).length≤40:=by
 have a:=sdW_len sPrin p.who
 have b:=sdW_len sAct p.act
 have c:=sdW_len sRes p.what
 unfold hdW
 simp
 omega
theorem cds_len:∀(l:List Cnd),(∀c∈l,¬ 300<(wrd c.ex).length)→(l.flatMap cdW).length≤l.length*303
 | [],_=>by simp
 | c::r,h=>by
   have h1:=cds_len r (fun d hd=>h d (by simp[hd]))
   have h2:=h c (by simp)
   rw[List.flatMap_cons,List.length_append,List.length_cons]
   have h3:(cdW c).length=(wrd c.ex).length+3:=by simp[cdW]
   omega
theorem cds_next {cs:List Cnd}{k:Nat}(h:k<cs.length):(cs.take (k+1)).flatMap cdW=(cs.take k).flatMap cdW++cdW cs[k]:=by
 rw[List.take_succ_eq_append_getElem h,List.flatMap_append]
 simp
section
variable (p:Po) (pc:Option Addr) (cc:Nat) (w:World) (h:PoA w p pc cc) (ht:Tab w) (hN:∀c∈p.cs,∀x∈c.ex,n64 x)
include h ht hN
theorem pwrite_any:
 Calls Tryz.prog 6 #[poV p pc cc] w fun en w'=>en= .returned (spellV (writeL p))∧Below w.heap.size w w':=by
 obtain⟨V,hV⟩:∃V,V=w.alloc (.cells (poC p pc cc) 28):=⟨_,rfl⟩
 have hbV:Below w.heap.size w V:=by rw[hV];exact kqx
 have HBk:Hid (∀w',Below V.heap.size V w'→Blk w' w.heap.size (poC p pc cc) 28):=fun w' hk=>by
  have hb:Blk V w.heap.size (poC p pc cc) 28:=by rw[hV];exact Blk.new w _ _ rfl
  exact hb.up hk
 have HC:=pcheck_any p pc cc V (h.up hbV)
 obtain⟨x0,x1,x2,x3,x4,x5,x6,x7,x8,x9,x10,x11,x12,x13,x14⟩:=po_cells (HBk.out V (Below.refl _ _))
 unfold poC at hV
 by_cases hn:pof p=0
 · rw[eV_nil hn]at HC
   have HN:Hid (pof p=0):=hn
   have HPA:Hid (PoA w p pc cc):=h
   have HTB:Hid (∀W,Below w.heap.size w W→Tab W):=fun W hW=>ht.up hW
   have HN6:Hid (∀c∈p.cs,∀x∈c.ex,n64 x):=hN
   have HCS:Hid (p.cs.length≤4∧∀c∈p.cs,xfault c.ex=0):=by
    obtain⟨_,_,_,_,h5,h6⟩:=pof_ways hn
    exact⟨h5,fun c hc=>(cdf_zero (csf_zero h6 c hc)).1⟩
   have HH:=fun W B v (k:PW W B v [])=>phead_any p pc cc W B v k
   unfold poV at *
   clear hn h ht hN
   go_enter Tryz.func6,Tryz.ntmps6
   go_wp2_with fail
   rw[←hV]
   refine HC.mono ?_
   rintro _ w1 ⟨rfl,hb1⟩
   clear hV HC x0 x1 x2 x3 x4 x5 x6 x7 x8 x9 x10 x11 x12 x13 x14
   obtain⟨x0,x1,x2,x3,x4,x5,x6,x7,x8,x9,x10,x11,x12,x13,x14⟩:=po_cells (HBk.out w1 hb1)
   have hlt1:w.heap.size<w1.heap.size:=(HBk.out w1 hb1).lt
   obtain⟨B,hB⟩:∃B,B=w1.heap.size:=⟨_,rfl⟩
   obtain⟨V2,hV2⟩:∃V2,V2=w1.alloc (.cells #[.slice none 0 0] 57):=⟨_,rfl⟩
   have hb12:Below w1.heap.size w1 V2:=by rw[hV2];exact kqx
   have HPW:Hid (PW V2 B (.slice none 0 0) []):=by rw[hV2,hB];exact PW.new w1
   have HB2:Hid (∀w',KP B V2 w'→Blk w' w.heap.size (poC p pc cc) 28):=fun w' hk=>hk.blk (by decide) (by decide) (by decide) ((HBk.out w1 hb1).up hb12)
   have h02:Below w.heap.size w V2:=kqt hbV (kqt hb1 hb12)
   have hwB:w.heap.size<B:=by omega
   have HHB:=HH V2 B _ HPW.out
   go_wp2_with fail
   rw[←hV2,←hB]
   clear hV2 hB x0 x1 x2 x3 x4 x5 x6 x7 x8 x9 x10 x11 x12 x13 x14 HBk hb1 hb12 hlt1 HH
   refine HHB.mono ?_
   rintro _ w2 ⟨rfl,p2⟩
   obtain⟨_,_,_,_,_,_,_,_,_,_,_,_,_,_,x14⟩:=po_cells (HB2.out w2 p2.2)
   have H2:Hid (Pw B (hdW p) V2 w2):=p2
   clear p2 HHB
   have HKB:Hid (∀w',KP B V2 w'→Below w.heap.size w w'):=fun w' hk=>h02.trans (hk.bel.mono (Nat.le_of_lt hwB))
   go_wp2
   go_loopw [20] (fun i wr=>∃k:Nat,k≤p.cs.length∧i= .int .i64 k∧Pw B (hdW p++(p.cs.take k).flatMap cdW) V2 wr∧Hid (∀c∈p.cs.take k,¬ 300<(wrd c.ex).length)) (fun i _=>p.cs.length-(intOf i).toNat)
   case atStart=>exact⟨0,Nat.zero_le _,rfl,by simpa using H2.out,by show ∀c∈_,_;simp⟩
   case round=>
    obtain⟨k,hk2,rfl,hp,HS⟩:=hrel
    have HP:Hid (Pw B (hdW p++(p.cs.take k).flatMap cdW) V2 wr):=hp
    have h0r:=HKB.out wr hp.2
    have HLn:Hid ((hdW p++(p.cs.take k).flatMap cdW).length≤2000):=by
     show _≤_
     have h1:=hdW_len p
     have h2:=cds_len (p.cs.take k) HS.out
     have h3:(p.cs.take k).length≤4:=by have:=HCS.out.1;rw[List.length_take];omega
     rw[List.length_append]
     omega
    by_cases hlt:k<p.cs.length
    · have i1:(k:Int)<(p.cs.length:Int):=by omega
      have hk4:k≤4:=by have:=HCS.out.1;omega
      obtain⟨bb,off,pe,ce,hpc,hbb,hak,z0',z1'⟩:=HPA.out.cl.at hlt
      have z0:=(h0r.cell (p:=⟨bb,off+k*2,none⟩) hbb).trans z0'
      have z1:=(h0r.cell (p:=⟨bb,off+k*2+1,none⟩) hbb).trans z1'
      have hbb4:bb<wr.heap.size:=Nat.lt_of_lt_of_le hbb h0r.size
      have HXF:Hid (xfault p.cs[k].ex=0):=HCS.out.2 _ (List.getElem_mem hlt)
      have HX6:Hid (∀x∈p.cs[k].ex,n64 x):=HN6.out _ (List.getElem_mem hlt)
      have HAk:Hid (∀W,Below w.heap.size w W→AK0 W p.cs[k].ex pe ce):=fun W hW=>⟨(hak.up hW).nl,(hak.up hW).le,(hak.up hW).cm⟩
      have HNX:Hid ((p.cs.take (k+1)).flatMap cdW=(p.cs.take k).flatMap cdW++cdW p.cs[k]):=cds_next hlt
      have HMM:Hid (p.cs[k]∈p.cs):=List.getElem_mem hlt
      have HTK:Hid (p.cs.take (k+1)=p.cs.take k++[p.cs[k]]):=List.take_succ_eq_append_getElem hlt
      subst hpc
      have hq:∀o,Pw B (hdW p++(p.cs.take k).flatMap cdW) V2 (wr.alloc o):=fun o=>hp.up kqx
      have hBr:B<wr.heap.size:=by obtain⟨⟨v,hv⟩,_⟩:=hp;exact hv.lt
      clear z0' z1' hak hp
      generalize p.cs[k]=c at *
      by_cases h3:300<(wrd c.ex).length
      · have HWR:Hid (writeL p= .error 4):=by
         show _=_
         unfold writeL
         rw[if_pos HN.out,if_pos (List.any_eq_true.2 ⟨c,HMM.out,by simpa using h3⟩)]
        have HCE:=fun o (x:Below wr.heap.size wr (wr.alloc o))=>(hq o).1.elim fun v hv=>pcond_err (wr.alloc o) B v (hdW p++(p.cs.take k).flatMap cdW) c pe ce hv (by have:=HLn.out;omega) (HAk.out _ (kqt h0r x)) HXF.out (HTB.out _ (kqt h0r x)) HX6.out h3
        unfold cndV at HCE
        clear hq h3
        go_wp2_with fail
        refine(HCE _ kqx).mono ?_
        rintro _ w3 ⟨rfl,hb3⟩
        have hb4:=kqt h0r (kqt kqx hb3)
        clear HCE hb3
        go_wp2
        go_ret2
        exact⟨by rw[HWR.out];rfl,hb4⟩
      · have HCO:=fun o (x:Below wr.heap.size wr (wr.alloc o))=>(hq o).1.elim fun v hv=>pcond_ok (wr.alloc o) B v (hdW p++(p.cs.take k).flatMap cdW) c pe ce hv (by have:=HLn.out;omega) (HAk.out _ (kqt h0r x)) HXF.out (HTB.out _ (kqt h0r x)) HX6.out h3
        have HQ2:Hid (∀o,Pw B (hdW p++(p.cs.take k).flatMap cdW) V2 (wr.alloc o)):=hq
        have HS2:Hid (∀d∈p.cs.take (k+1),¬ 300<(wrd d.ex).length):=fun d hd=>by
         rw[HTK.out]at hd
         rcases List.mem_append.1 hd with hd | hd
         · exact HS.out d hd
         · simp only[List.mem_singleton]at hd;subst hd;exact h3
        unfold cndV at HCO
        clear hq h3
        go_wp2_with fail
        refine(HCO _ kqx).mono ?_
        rintro _ w3 ⟨rfl,p3⟩
        have H3:Hid (Pw B (hdW p++(p.cs.take (k+1)).flatMap cdW) V2 w3):=by
         rw[HNX.out,←List.append_assoc]
         exact(HQ2.out _).then p3
        clear HCO p3
        go_wp2
        go_roundw
        case rel=>exact⟨k+1,by omega,by go_num,H3.out,HS2⟩
        case measure=>simp[intOf];omega
    · have i1:¬(k:Int)<(p.cs.length:Int):=by omega
      have e9:p.cs.take k=p.cs:=List.take_of_length_le (by omega)
      rw[e9]at hp HS HLn
      have HWR:Hid (writeL p=spellL (poW p)):=by
       show _=_
       unfold writeL
       rw[if_pos HN.out,if_neg]
       intro e
       obtain⟨c,hc,h1⟩:=List.any_eq_true.1 e
       exact HS.out c hc (by simpa using h1)
      have hsm:∀t∈poW p,t.s.size≤140737488351232:=fun t h1=>by
       unfold poW at h1
       rcases List.mem_append.1 h1 with h2 | h2
       · have:=hdW_small HN.out t h2;omega
       · obtain⟨c,hc,h3⟩:=List.mem_flatMap.1 h2
         have:=cdW_small (HCS.out.2 c hc) (HN6.out c hc) (HS.out c hc) t h3
         omega
      obtain⟨⟨v3,hv3⟩,hkp⟩:=hp
      obtain⟨q3,c3,e3,ht3,hl3,hm3,_⟩:=hv3.own.slice
      subst e3
      have HSP:=spell_any (poW p) q3 c3 wr ht3 (Nat.le_trans hl3 hm3) hsm
      obtain⟨n3,hn3⟩:∃n,n=(poW p).length:=⟨_,rfl⟩
      have d0:wr.cell? ⟨B,0,none⟩=some (.slice q3 n3 c3):=by rw[hn3];exact hv3.c0
      rw[←hn3]at HSP
      generalize spellL (poW p)=S at *
      clear hv3 hkp ht3 hl3 hm3 hsm hn3 e9 HP HLn
      cases S with
      | ok l=>
        simp only[spellV]at HSP
        go_wp2_with fail
        refine HSP.mono ?_
        rintro _ w4 ⟨rfl,hb4⟩
        go_wp2
        go_ret2
        exact⟨by rw[HWR.out];rfl,kqt h0r hb4⟩
      | error n=>
        simp only[spellV]at HSP
        go_wp2_with fail
        refine HSP.mono ?_
        rintro _ w4 ⟨rfl,hb4⟩
        go_wp2
        go_ret2
        exact⟨by rw[HWR.out];rfl,kqt h0r hb4⟩
 · have HE:Hid (writeL p= .error (pof p)):=by show _=_;unfold writeL;rw[if_neg hn]
   rw[eV_not hn]at HC
   rw[HE.out]
   generalize pof p=n at *
   unfold poV at *
   unfold spellV
   clear hn HBk HE h ht hN
   go_enter Tryz.func6,Tryz.ntmps6
   go_wp2_with fail
   rw[←hV]
   refine HC.mono ?_
   rintro _ w1 ⟨rfl,hb1⟩
   clear hV
   go_wp2
   go_ret2
   exact⟨rfl,kqt hbV hb1⟩
end
end Go.Proofs.YtjkepjbfgeldnaaGreatDoor
