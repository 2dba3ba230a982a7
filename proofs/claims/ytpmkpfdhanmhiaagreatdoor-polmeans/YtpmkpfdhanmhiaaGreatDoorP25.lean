import Derived.Test.YtpmkpfdhanmhiaaGreatDoorP13
import Derived.Test.YtpmkpfdhanmhiaaGreatDoorP23
import Derived.Test.YtpmkpfdhanmhiaaGreatDoorP24
set_option linter.unusedVariables false
set_option maxHeartbeats 12000000
namespace Go.Proofs.YtpmkpfdhanmhiaaGreatDoor
open Go.RowKit
set_option linter.unusedSimpArgs false
set_option maxRecDepth 100000
theorem LL.lit2 {W:World}{B:Nat}(hB:B=W.heap.size){a b:List Nd}{p q:Option Addr}{c d n m:Nat}(ha:AK0 W a p c)(hb:AK0 W b q d)(hn:a.length=n)(hm:b.length=m):LL (W.alloc (.cells #[.slice p n c,.slice q m d] 30)) (some ⟨B,0,none⟩) [a,b]:=by
 subst hB hn hm
 refine .inr ⟨_,_,rfl,by simp,fun i v hv=>?_⟩
 have hi:i=0∨i=1:=by have:=(List.getElem?_eq_some_iff.1 hv).1;simp at this;omega
 rcases hi with rfl | rfl
 · simp only[List.getElem?_cons_zero,Option.some.injEq]at hv
   subst hv
   exact⟨p,c,(Blk.new W _ _ rfl).cell (0+0),ha.nl.up kqx,ha.le,ha.cm⟩
 · simp only[List.getElem?_cons_succ,List.getElem?_cons_zero,Option.some.injEq]at hv
   subst hv
   exact⟨q,d,(Blk.new W _ _ rfl).cell (0+1),hb.nl.up kqx,hb.le,hb.cm⟩
theorem LL.lit3 {W:World}{B:Nat}(hB:B=W.heap.size){a b e:List Nd}{p q r:Option Addr}{c d f n m k:Nat}(ha:AK0 W a p c)(hb:AK0 W b q d)(he:AK0 W e r f)(hn:a.length=n)(hm:b.length=m)(hk:e.length=k):LL (W.alloc (.cells #[.slice p n c,.slice q m d,.slice r k f] 30)) (some ⟨B,0,none⟩) [a,b,e]:=by
 subst hB hn hm hk
 refine .inr ⟨_,_,rfl,by simp,fun i v hv=>?_⟩
 have hi:i=0∨i=1∨i=2:=by have:=(List.getElem?_eq_some_iff.1 hv).1;simp at this;omega
 rcases hi with rfl | rfl | rfl
 · simp only[List.getElem?_cons_zero,Option.some.injEq]at hv
   subst hv
   exact⟨p,c,(Blk.new W _ _ rfl).cell (0+0),ha.nl.up kqx,ha.le,ha.cm⟩
 · simp only[List.getElem?_cons_succ,List.getElem?_cons_zero,Option.some.injEq]at hv
   subst hv
   exact⟨q,d,(Blk.new W _ _ rfl).cell (0+1),hb.nl.up kqx,hb.le,hb.cm⟩
 · simp only[List.getElem?_cons_succ,List.getElem?_cons_zero,Option.some.injEq]at hv
   subst hv
   exact⟨r,f,(Blk.new W _ _ rfl).cell (0+2),he.nl.up kqx,he.le,he.cm⟩
theorem AK0.lit1 {W:World}{B:Nat}(hB:B=W.heap.size){x:Nd}(hx:x.wf){o n:Value}{s t:Value}(h1:o= .int .i64 x.op)(h2:n= .int .i64 x.n)(h3:s= .string x.s)(h4:t= .string x.t):AK0 (W.alloc (.cells #[o,n,s,t] 46)) [x] (some ⟨B,0,none⟩) 1:=by
 subst h1 h2 h3 h4 hB
 exact⟨NL.lit W [x] _ (by simpa using hx) rfl (by simp),by simp,by unfold maxLen;decide⟩
def CxRet (w w':World)(pe:Option Addr)(L:List Nd)(e:Ending):Prop:=∃q c',e= .returned (.slice q L.length c')∧AK0 w' L q c'∧(q=pe∨∀b o,q=some ⟨b,o,none⟩→w.heap.size≤b)
theorem condExpr_any (c:Cnd)(pe:Option Addr)(ce:Nat)(w:World)(h:AK w c.ex pe ce)(hne:c.ex≠[])(hl:c.ex.length≤200):
 Calls Tryz.prog 14 #[cndV c pe ce] w fun e w'=>CxRet w w' pe (cdE c) e∧Below w.heap.size w w':=by
 obtain⟨un,ex⟩:=c
 simp only at h hne hl
 cases un with
 | false=>
   unfold cndV
   simp only
   have hA:Hid (AK0 w ex pe ce):=⟨h.nl,h.le,h.cm⟩
   clear h
   go_enter Tryz.func14,Tryz.ntmps14
   go_wp2
   go_ret
   exact⟨⟨pe,ce,rfl,hA.out.up kqx,.inl rfl⟩,kqx⟩
 | true=>
   unfold cndV
   simp only
   have hA:Hid (AK0 w ex pe ce):=⟨h.nl,h.le,h.cm⟩
   have HC:=fun W B (hL:LL W (some ⟨B,0,none⟩) [[nO 9],ex])=>concatN_any [[nO 9],ex] (by intro l hl;simp only[List.mem_cons,List.not_mem_nil,or_false]at hl;rcases hl with rfl | rfl;exact(by simp);exact hne) (some ⟨B,0,none⟩) 2 W hL (by simp[catL];omega) (by simp)
   have HL:catL [[nO 9],ex]=nO 9::ex:=by simp[catL]
   rw[HL]at HC
   have HLd:Hid (cdE ⟨true,ex⟩=nO 9::ex):=rfl
   clear h hne HL
   go_enter Tryz.func14,Tryz.ntmps14
   go_wp2_with fail
   refine(HC _ _ ?_).mono ?_
   · refine LL.lit2 (by simp) (AK0.lit1 (by simp) nO_wf rfl rfl rfl rfl) (hA.out.up ?_) rfl rfl
     exact kqx
   rintro _ w3 ⟨⟨q,c',rfl,h3,h4⟩,hb3⟩
   have hb03:Below w.heap.size w w3:=kqt kqx hb3
   have H4:Hid (AK0 w3 (nO 9::ex) q c'∧∀b o,q=some ⟨b,o,none⟩→w.heap.size≤b):=⟨h3,fun b o e=>by have:=h4 b o e;simp at this;omega⟩
   clear h3 h4 HC
   obtain⟨n,hn⟩:∃n,n=(nO 9::ex).length:=⟨_,rfl⟩
   rw[←hn]
   have HN:Hid (n=(nO 9::ex).length):=hn
   clear hn
   go_wp2
   go_ret
   exact⟨⟨q,c',by rw[HLd.out,HN.out];rfl,by rw[HLd.out];exact H4.out.1,.inr H4.out.2⟩,hb03⟩
theorem sN_small (k:Nat):(sdN k).size≤100:=by
 unfold sdN
 split
 · decide
 · split<;>decide
theorem sdS_ok {p:Po}(h0:ScoOk p.who)(h1:ScoOk p.act)(h2:ScoOk p.what)(k:Nat):ScoOk (sdS p k):=by
 unfold sdS
 split
 · exact h0
 · split
   · exact h1
   · exact h2
def scP (p:Po)(k:Nat):List (List Nd):=(List.range k).map fun i=>scE (sdN i) (sdS p i)
theorem scP_next (p:Po)(k:Nat):scP p (k+1)=scP p k++[scE (sdN k) (sdS p k)]:=by
 unfold scP
 rw[List.range_succ,List.map_append];rfl
theorem scP_len (p:Po)(k:Nat):(scP p k).length=k:=by simp[scP]
theorem scP_all (p:Po):scP p 3++p.cs.map cdE=poP p:=rfl
theorem cdE_next {cs:List Cnd}{k:Nat}(h:k<cs.length):(cs.take (k+1)).map cdE=(cs.take k).map cdE++[cdE cs[k]]:=by
 rw[List.take_succ_eq_append_getElem h,List.map_append];rfl
theorem ands_next {l:List (List Nd)}{k n:Nat}(h:k<l.length):andsL (n+1) (l.take (k+1))=nO 11::(andsL n (l.take k)++l[k]):=by
 rw[List.take_succ_eq_append_getElem h,andsL_snoc]
theorem ands_first {l:List (List Nd)}(h:0<l.length):andsL 0 (l.take 1)=l[0]:=by
 cases l with
 | nil=>simp at h
 | cons a r=>simp[andsL]
theorem AK0.lt {w:World}{L:List Nd}{q:Option Addr}{c:Nat}(h:AK0 w L q c)(hne:L≠[]){b o:Nat}(e:q=some ⟨b,o,none⟩):b<w.heap.size:=by
 rcases h.nl with h1 | ⟨b',o',e2,h2,_⟩
 · exact absurd h1 hne
 · rw[e]at e2;cases e2;exact h2
theorem TRow.own {w:World}{base:Nat}{v:Value}{vs:List (List Nd)}(h:TRow w base v vs){g:Nat}(hg:v.ownBlock=some g):g<w.heap.size∧base≤g:=by
 obtain⟨xs,h1,_⟩:=h
 exact ownP_lt h1 hg
theorem TRow.cap {w:World}{base:Nat}{q:Option Addr}{n c:Nat}{vs:List (List Nd)}(h:TRow w base (.slice q n c) vs):vs.length≤c∧c≤maxLen:=by
 obtain⟨xs,h1,_⟩:=h
 rcases h1.2 with⟨e,h0⟩ | ⟨g,cap,cur,e,hb,hgg,hle,hm,_⟩
 · cases e;omega
 · cases e;exact⟨hle,hm⟩
theorem scE_ne (v:ByteArray)(s:Sco):scE v s≠[]:=fun e=>by have:=(scE_len v s).2;rw[e]at this;simp at this
theorem cdE_ne {c:Cnd}(h:xfault c.ex=0):cdE c≠[]:=fun e=>by have:=(cdE_len c h).2;rw[e]at this;simp at this
theorem ex_ne {e:List Nd}(h:xfault e=0):e≠[]:=fun h2=>by
 have:=(xfault_zero h).2
 rw[h2]at this
 simp[pastE]at this
theorem poP_len (p:Po):(poP p).length=3+p.cs.length:=by simp[poP];omega
def ExpRet (w':World)(p:Po)(e:Ending):Prop:=match exprL p with
 | .ok L=>∃q c,e= .returned (.tuple #[.slice q L.length c,.nilIface])∧AK0 w' L q c
 | .error n=>e= .returned (.tuple #[.slice none 0 0,.iface 57 (.int .i64 n)])
def ExpRetN (N:Nat)(w':World)(p:Po)(e:Ending):Prop:=match exprL p with
 | .ok L=>∃q c,e= .returned (.tuple #[.slice q L.length c,.nilIface])∧AK0 w' L q c∧∀b o,q=some ⟨b,o,none⟩→N≤b
 | .error n=>e= .returned (.tuple #[.slice none 0 0,.iface 57 (.int .i64 n)])
theorem ExpRetN.ret {N:Nat}{w':World}{p:Po}{e:Ending}(h:ExpRetN N w' p e):ExpRet w' p e:=by
 unfold ExpRetN at h
 unfold ExpRet
 cases hp:exprL p with
 | ok L=>
   rw[hp]at h
   obtain⟨q,c,h1,h2,_⟩:=h
   exact⟨q,c,h1,h2⟩
 | error n=>
   rw[hp]at h
   exact h
theorem pexpr_new (p:Po)(pc:Option Addr)(cc:Nat)(w:World)(h:PoA w p pc cc):
 Calls Tryz.prog 4 #[poV p pc cc] w fun e w'=>ExpRetN w.heap.size w' p e∧Below w.heap.size w w':=by
 obtain⟨V,hV⟩:∃V,V=w.alloc (.cells (poC p pc cc) 29):=⟨_,rfl⟩
 have hbV:Below w.heap.size w V:=by rw[hV];exact kqx
 have HBk:Hid (∀w',Below V.heap.size V w'→Blk w' w.heap.size (poC p pc cc) 29):=fun w' hk=>by
  have hb:Blk V w.heap.size (poC p pc cc) 29:=by rw[hV];exact Blk.new w _ _ rfl
  exact hb.up hk
 have HC:=pcheck_any p pc cc V (h.up hbV)
 have HPA:Hid (PoA w p pc cc):=h
 have HX:=po_cells (HBk.out V (Below.refl _ _))
 obtain⟨x0,x1,x2,x3,x4,x5,x6,x7,x8,x9,x10,x11,x12,x13,x14⟩:=HX
 clear h
 unfold poC at hV
 by_cases hn:pof p=0
 · rw[eV_nil hn]at HC
   have HS:=fun W=>sidesOf_any p pc cc W
   have HSM:=fun k W=>sideE_any (sdS p k) (sdN k) W (sdS_ok HPA.out.who HPA.out.act HPA.out.what k) (sN_small k)
   have HN:Hid (pof p=0):=hn
   have HCS:Hid (p.cs.length≤4∧∀c∈p.cs,xfault c.ex=0):=by
    obtain⟨_,_,_,_,h5,h6⟩:=pof_ways hn
    exact⟨h5,fun c hc=>(cdf_zero (csf_zero h6 c hc)).1⟩
   unfold poV at *
   unfold sdV at HSM
   clear hn
   go_enter Tryz.func4,Tryz.ntmps4
   go_wp2_with fail
   rw[←hV]
   refine HC.mono ?_
   rintro _ w1 ⟨rfl,hb1⟩
   clear hV HC x0 x1 x2 x3 x4 x5 x6 x7 x8 x9 x10 x11 x12 x13 x14
   have HX:=po_cells (HBk.out w1 hb1)
   obtain⟨x0,x1,x2,x3,x4,x5,x6,x7,x8,x9,x10,x11,x12,x13,x14⟩:=HX
   go_wp2_with fail
   refine(HS _).mono ?_
   rintro _ w2 ⟨⟨b,rfl,hsd⟩,hb2'⟩
   have hb2:=kqt hb1 hb2'
   have HSD:Hid (∀w',Below w2.heap.size w2 w'→Blk w' b (sidesC p) 53):=fun w' hk=>hsd.up hk
   have h02:=kqt hbV hb2
   clear hsd HS x0 x1 x2 x3 x4 x5 x6 x7 x8 x9 x10 x11 x12 x13 x14 hb1 hb2'
   go_wp2
   go_loopw [5,21] (fun pv i wr=>∃k:Nat,k≤3∧i= .int .i64 k∧TRow wr w2.heap.size pv (scP p k)∧Below w2.heap.size w2 wr) (fun _ i _=>3-(intOf i).toNat)
   case atStart=>exact⟨0,by omega,rfl,TRow.nil _ _,Below.refl _ _⟩
   case round=>
    obtain⟨k,hk,rfl,hT,hb⟩:=hrel
    by_cases hlt:k<3
    · have i1:(k:Int)<3:=by omega
      obtain⟨y0,y1,y2,y3,y4⟩:=sides_at (HSD.out wr hb) hlt
      have hbl:b<wr.heap.size:=(HSD.out wr hb).lt
      have HM:=HSM k
      have HNX:Hid (scP p (k+1)=scP p k++[scE (sdN k) (sdS p k)]):=scP_next p k
      have HNE:Hid (scE (sdN k) (sdS p k)≠[]):=scE_ne _ _
      obtain⟨qt,ct,hqt,_⟩:=hT.slice
      rw[scP_len]at hqt
      subst hqt
      have HT:Hid (TRow wr w2.heap.size (.slice qt k ct) (scP p k)):=hT
      clear hT
      generalize sdS p k=s at *
      generalize sdN k=nm at *
      go_wp2_with (first | (refine(HM _).mono ?_;rintro _ w3 ⟨⟨q3,c3,rfl,hA3,hn3⟩,hb3⟩) | (at_builtin;refine Hid.out ?_))
      have hb3':Below wr.heap.size wr w3:=kqt kqx hb3
      have hT3:=HT.out.up hb3'
      have h23:=hb.trans (hb3'.mono hb.size)
      show wpList _ _ _ _ _ _
      refine append_rowT w3 rfl (.tmp 25) (.tmp 28) rfl w2.heap.size (.slice qt k ct) (scP p k) rfl hT3 (scE nm s) q3 c3 hA3 (fun b o e=>⟨hA3.lt HNE.out e,fun e2=>by have h1:=HT.out.own e2;have h2:=hn3 b o e;simp at h2;omega⟩) rfl (by rw[scP_len];omega) h23.size rfl ?_
      intro v8 w8 hT8 hK8
      have hb8:Below w2.heap.size w2 w8:=h23.trans (hK8.below h23.size (fun b e=>(hT3.own e).2))
      obtain⟨q8,c8,rfl,_⟩:=hT8.slice
      have e8:(scP p k++[scE nm s]).length=k+1:=by simp[scP_len]
      rw[e8]at hT8 ⊢
      have HT8:Hid (TRow w8 w2.heap.size (.slice q8 (k+1) c8) (scP p (k+1))):=by rw[HNX.out];exact hT8
      clear e8
      clear hT8 hT3 hA3 hn3 HT hK8
      go_wp2
      go_roundw
      case rel=>exact⟨k+1,by omega,by go_num,HT8.out,hb8⟩
      case measure=>simp[intOf];omega
    · have i1:¬(k:Int)<3:=by omega
      obtain rfl:k=3:=by omega
      have HT:Hid (TRow wr w2.heap.size u5 (scP p 3)):=hT
      have h0r:=kqt h02 hb
      have HPR:Hid (∀w',Below wr.heap.size wr w'→w'.cell? ⟨w.heap.size,14,none⟩=some (.slice pc p.cs.length cc)):=fun w' hk=>by
       obtain⟨_,_,_,_,_,_,_,_,_,_,_,_,_,_,x14⟩:=po_cells (HBk.out w' (kqt hb2 (kqt hb hk)))
       exact x14
      have x14:=HPR.out wr (Below.refl _ _)
      have h0b:w.heap.size≤w2.heap.size:=h02.size
      have hbr:=hb.size
      clear hT HSM HSD HBk hb hb2
      rename World=>wO
      go_wp2
      go_loopw [5,34] (fun pv i w4=>∃k:Nat,k≤p.cs.length∧i= .int .i64 k∧TRow w4 w2.heap.size pv (scP p 3++(p.cs.take k).map cdE)∧Below w2.heap.size wO w4) (fun _ i _=>p.cs.length-(intOf i).toNat)
      case atStart=>exact⟨0,Nat.zero_le _,rfl,by simpa using HT.out,Below.refl _ _⟩
      case round=>
       obtain⟨k,hk2,rfl,hT,hb⟩:=hrel
       have h04:Below w.heap.size w wr:=h0r.trans (hb.mono h0b)
       by_cases hlt:k<p.cs.length
       · have i2:(k:Int)<(p.cs.length:Int):=by omega
         obtain⟨bb,off,pe,ce,hpc,hbb,hak,z0',z1'⟩:=HPA.out.cl.at hlt
         have z0:=(h04.cell (p:=⟨bb,off+k*2,none⟩) hbb).trans z0'
         have z1:=(h04.cell (p:=⟨bb,off+k*2+1,none⟩) hbb).trans z1'
         have hbb4:bb<wr.heap.size:=Nat.lt_of_lt_of_le hbb h04.size
         have HXF:Hid (xfault p.cs[k].ex=0):=HCS.out.2 _ (List.getElem_mem hlt)
         have HM:=fun W (hW:Below w.heap.size w W)=>condExpr_any p.cs[k] pe ce W (hak.up hW) (ex_ne HXF.out) (xfault_zero HXF.out).1
         have HPE:Hid (∀b o,pe=some ⟨b,o,none⟩→b<w.heap.size):=fun b o e=>AK0.lt (c:=ce) ⟨hak.nl,hak.le,hak.cm⟩ (ex_ne HXF.out) e
         have HNX:Hid (scP p 3++(p.cs.take (k+1)).map cdE=(scP p 3++(p.cs.take k).map cdE)++[cdE p.cs[k]]):=by show _=_;rw[cdE_next hlt,List.append_assoc]
         have HNE:Hid (cdE p.cs[k]≠[]):=cdE_ne HXF.out
         have HLn:Hid ((scP p 3++(p.cs.take k).map cdE).length=3+k):=by show _=_;rw[List.length_append,scP_len,List.length_map,List.length_take];omega
         unfold cndV at HM
         subst hpc
         obtain⟨qt,ct,hqt,_⟩:=hT.slice
         rw[HLn.out]at hqt
         subst hqt
         have HT4:Hid (TRow wr w2.heap.size (.slice qt (3+k) ct) (scP p 3++(p.cs.take k).map cdE)):=hT
         clear hT z0' z1' hak
         generalize scP p 3++(p.cs.take k).map cdE=M at *
         generalize p.cs[k]=c at *
         have hkk:k≤4:=by have:=HCS.out.1;omega
         go_wp2_with (first | (refine(HM _ (kqt h04 kqx)).mono ?_;rintro _ w5 ⟨⟨q5,c5,rfl,hA5,hn5⟩,hb5⟩) | (at_builtin;refine Hid.out ?_))
         have hb5':Below wr.heap.size wr w5:=kqt kqx hb5
         have hT5:=HT4.out.up hb5'
         have h25:w2.heap.size≤w5.heap.size:=by have:=hb5'.size;have:=hb.size;omega
         show wpList _ _ _ _ _ _
         refine append_rowT w5 rfl (.tmp 38) (.tmp 41) rfl w2.heap.size (.slice qt (3+k) ct) M rfl hT5 (cdE c) q5 c5 hA5 (fun b o e=>⟨hA5.lt HNE.out e,fun e2=>by
          have h1:=HT4.out.own e2
          rcases hn5 with h2 | h2
          · have h3:=HPE.out b o (by rw[←h2];exact e)
            omega
          · have h3:=h2 b o e
            simp at h3
            omega⟩) rfl (by rw[HLn.out];omega) h25 rfl ?_
         intro v8 w8 hT8 hK8
         have hb8:Below w2.heap.size wO w8:=(hb.trans (hb5'.mono (by have:=hb.size;omega))).trans (hK8.below h25 (fun b e=>(hT5.own e).2))
         have e8:(M++[cdE c]).length=3+k+1:=by rw[List.length_append,HLn.out];rfl
         obtain⟨q8,c8,rfl,_⟩:=hT8.slice
         rw[e8]at hT8 ⊢
         have HT8:Hid (TRow w8 w2.heap.size (.slice q8 (3+k+1) c8) (scP p 3++(p.cs.take (k+1)).map cdE)):=by rw[HNX.out];exact hT8
         clear hT8 hT5 hA5 hn5 HT4 hK8 e8
         go_wp2
         go_roundw
         case rel=>exact⟨k+1,by omega,by go_num,HT8.out,hb8⟩
         case measure=>simp[intOf];omega
       · have i2:¬(k:Int)<(p.cs.length:Int):=by omega
         have e9:scP p 3++(p.cs.take k).map cdE=poP p:=by rw[List.take_of_length_le (by omega)];exact scP_all p
         rw[e9]at hT
         obtain⟨l,hl⟩:∃l,l=poP p:=⟨_,rfl⟩
         have HL:Hid (l=poP p):=hl
         rw[←hl]at hT
         obtain⟨qt,ct,hqt,hLL⟩:=hT.slice
         have hln:l.length=3+p.cs.length:=by rw[hl];exact poP_len p
         have hcap:=(show TRow wr w2.heap.size (.slice qt l.length ct) l by rw[←hqt];exact hT).cap
         subst hqt
         have hl1:0<l.length:=by omega
         obtain⟨bt,ot,_,_,hqt2,_⟩:=hLL.at hl1
         subst hqt2
         have HEL:Hid (∀w',Below wr.heap.size wr w'→∀i (hi:i<l.length),∃q c,w'.cell? ⟨bt,ot+i,none⟩=some (.slice q l[i].length c)∧AK0 w' l[i] q c):=fun w' hk i hi=>by
          obtain⟨b',o',q',c',e,_,g1,g2,g3,g4⟩:=(hLL.up hk).at hi
          cases e
          exact⟨q',c',g1,g2,g3,g4⟩
         have HLB:Hid (∀x∈l,x≠[]∧x.length≤201):=fun x hx=>by
          rw[hl]at hx
          unfold poP at hx
          simp only[List.mem_cons,List.mem_map]at hx
          rcases hx with rfl | rfl | rfl | ⟨c,hc,rfl⟩
          · exact⟨scE_ne _ _,by have:=(scE_len sPrin p.who).1;omega⟩
          · exact⟨scE_ne _ _,by have:=(scE_len sAct p.act).1;omega⟩
          · exact⟨scE_ne _ _,by have:=(scE_len sRes p.what).1;omega⟩
          · exact⟨cdE_ne (HCS.out.2 c hc),(cdE_len c (HCS.out.2 c hc)).1⟩
         have hl7:l.length≤7:=by have:=HCS.out.1;omega
         have HAL:Hid (∀k,k+1≤l.length→(andsL k (l.take (k+1))).length≤5000):=fun k hk=>by
          unfold andsL
          have:=flatten_len (l.take (k+1)) 201 (fun x hx=>(HLB.out x (List.mem_of_mem_take hx)).2)
          have h2:(l.take (k+1)).length≤7:=by rw[List.length_take];omega
          have h3:(l.take (k+1)).length*201≤7*201:=Nat.mul_le_mul_right _ h2
          rw[List.length_append,List.length_replicate]
          omega
         have HEX:Hid (poE p=andsL (l.length-1) l):=by show _=_;unfold poE;rw[hl,poP_len];congr 1;omega
         obtain⟨q0,c0,z0,hA0⟩:=HEL.out wr (Below.refl _ _) 0 hl1
         have HA0:Hid (AK0 wr l[0] q0 c0):=hA0
         have HF0:Hid (andsL 0 (l.take 1)=l[0]):=ands_first hl1
         have HNX:Hid (∀k (hk:k+1<l.length),andsL (k+1) (l.take (k+1+1))=nO 11::(andsL k (l.take (k+1))++l[k+1])):=fun k hk=>ands_next hk
         have hAne:Hid (∀k,andsL k (l.take (k+1))≠[]):=fun k e=>by
          cases k with
          | zero=>
            rw[ands_first hl1]at e
            exact(HLB.out _ (List.getElem_mem hl1)).1 e
          | succ k=>unfold andsL at e;rw[List.replicate_succ]at e;simp at e
         have hbw:=kqt h0r (Below.refl _ _)
         have h0w:Below w.heap.size w wr:=h04
         clear hT hLL hA0 hb h04 HPR x14 e9 hl
         obtain⟨N,hN⟩:∃N,N=l.length:=⟨_,rfl⟩
         rw[←hN]at hcap hl1 hl7 ⊢
         have HNl:Hid (N=l.length):=hN
         have hN3:3≤N:=by omega
         obtain⟨hcap1,hcap2⟩:=hcap
         have hct3:3≤ct:=by omega
         have hct1:¬ct=1:=by omega
         clear hN hl1
         rename World=>wP
         simp only[Nat.add_zero]at z0
         go_wp2
         go_loopw [10,50] (fun ev i w5=>∃k n q c,k+1≤N∧i= .int .i64 (k:Nat)∧ev= .slice q n c∧Hid (k=0∨∀b o,q=some ⟨b,o,none⟩→w.heap.size≤b)∧Hid (n=(andsL k (l.take (k+1))).length)∧AK0 w5 (andsL k (l.take (k+1))) q c∧Below wP.heap.size wP w5) (fun _ i _=>N-(intOf i).toNat)
         case atStart=>exact⟨0,l[0].length,q0,c0,by omega,rfl,rfl,.inl rfl,by show _=_;rw[HF0.out],by rw[HF0.out];exact HA0.out,Below.refl _ _⟩
         case round=>
          obtain⟨k,n,q,c,hk3,rfl,rfl,HQn,HNn,hA,hb⟩:=hrel
          by_cases hlt:k+1<N
          · have i3:(k:Int)<((N-1:Nat):Int):=by omega
            obtain⟨qp,cp,zp,hAp⟩:=HEL.out wr hb (k+1) (by have:=HNl.out;omega)
            have zp2:wr.cell? ⟨bt,ot+1+k,none⟩=some (.slice qp (l[k+1]'(by have:=HNl.out;omega)).length cp):=by rw[Nat.add_assoc,Nat.add_comm 1 k];exact zp
            have HN2:=HNX.out k (by have:=HNl.out;omega)
            have hP:=HLB.out _ (List.getElem_mem (l:=l) (n:=k+1) (by have:=HNl.out;omega))
            have hA1:=hAne.out k
            have hA2:=HAL.out k (by have:=HNl.out;omega)
            clear zp
            generalize l[k+1]'(by have:=HNl.out;omega)=P at *
            have HNX2:Hid (andsL (k+1) (l.take (k+1+1))=nO 11::(andsL k (l.take (k+1))++P)):=HN2
            clear HN2
            generalize andsL k (l.take (k+1))=A at *
            have HC:=fun W B (hL:LL W (some ⟨B,0,none⟩) [[nO 11],A,P])=>concatN_any [[nO 11],A,P] (by intro x hx;simp only[List.mem_cons,List.not_mem_nil,or_false]at hx;rcases hx with rfl | rfl | rfl;exact(by simp);exact hA1;exact hP.1) (some ⟨B,0,none⟩) 3 W hL (by have:=hP.2;simp[catL];omega) (by simp)
            have HL:catL [[nO 11],A,P]=nO 11::(A++P):=by simp[catL]
            rw[HL]at HC
            have HA3:Hid (AK0 wr A q c):=hA
            have HP3:Hid (AK0 wr P qp cp):=hAp
            clear hA hAp hP hA1 hA2 HL
            go_wp2_with fail
            refine(HC _ _ (LL.lit3 (by simp) (AK0.lit1 (by simp) nO_wf rfl rfl rfl rfl) (HA3.out.up kqx) (HP3.out.up kqx) rfl HNn.out.symm rfl)).mono ?_
            rintro _ w6 ⟨⟨q6,c6,rfl,hA6,hq6⟩,hb6⟩
            have HQ6:Hid (k+1=0∨∀b o,q6=some ⟨b,o,none⟩→w.heap.size≤b):=.inr (fun b o e=>by have:=hq6 b o e;simp at this;have:=h0w.size;have:=hb.size;omega)
            have hb6':Below wP.heap.size wP w6:=kqt hb (kqt kqx hb6)
            obtain⟨n6,hn6⟩:∃n,n=(nO 11::(A++P)).length:=⟨_,rfl⟩
            rw[←hn6]
            have HN6:Hid (n6=(andsL (k+1) (l.take (k+1+1))).length):=by show _=_;rw[HNX2.out];exact hn6
            have HA6:Hid (AK0 w6 (andsL (k+1) (l.take (k+1+1))) q6 c6):=by rw[HNX2.out];exact hA6
            clear hn6 hA6 HC hq6 HQn
            go_wp2
            go_roundw
            case rel=>exact⟨k+1,n6,q6,c6,by omega,by go_num,rfl,HQ6,HN6,HA6.out,hb6'⟩
            case measure=>simp[intOf];omega
          · have i3:¬(k:Int)<((N-1:Nat):Int):=by omega
            have e9:andsL k (l.take (k+1))=poE p:=by
             rw[HEX.out,List.take_of_length_le (by have:=HNl.out;omega)]
             congr 1
             have:=HNl.out
             omega
            rw[e9]at hA HNn
            have HAE:Hid (AK0 wr (poE p) q c):=hA
            have h0e:=kqt h0w hb
            clear hA e9 hb
            by_cases h200:200<n
            · have i4:(200:Int)<(n:Int):=by omega
              have HE:Hid (exprL p= .error 4):=by show _=_;unfold exprL;rw[if_pos HN.out,if_neg (by have:=HNn.out;omega)]
              go_wp2
              go_ret2
              exact⟨by unfold ExpRetN;rw[HE.out];rfl,h0e⟩
            · have i4:¬(200:Int)<(n:Int):=by omega
              have HE:Hid (exprL p= .ok (poE p)):=by show _=_;unfold exprL;rw[if_pos HN.out,if_pos (by have:=HNn.out;omega)]
              go_wp2
              go_ret2
              exact⟨by unfold ExpRetN;rw[HE.out];exact⟨q,c,by rw[HNn.out];rfl,HAE.out,(HQn.out).resolve_left (by omega)⟩,h0e⟩
 · have HE:Hid (exprL p= .error (pof p)):=by show _=_;unfold exprL;rw[if_neg hn]
   rw[eV_not hn]at HC
   unfold ExpRetN
   rw[HE.out]
   generalize pof p=n at *
   unfold poV at *
   clear hn HPA HBk HE
   go_enter Tryz.func4,Tryz.ntmps4
   go_wp2_with fail
   rw[←hV]
   refine HC.mono ?_
   rintro _ w1 ⟨rfl,hb1⟩
   clear hV
   go_wp2
   go_ret2
   exact⟨rfl,kqt hbV hb1⟩
theorem pexpr_any (p:Po)(pc:Option Addr)(cc:Nat)(w:World)(h:PoA w p pc cc):
 Calls Tryz.prog 4 #[poV p pc cc] w fun e w'=>ExpRet w' p e∧Below w.heap.size w w':=
 (pexpr_new p pc cc w h).mono fun e w' h=>⟨h.1.ret,h.2⟩
def po0:Po:=⟨⟨#[97]⟩,false,⟨0,eB,eU⟩,⟨0,eB,eU⟩,⟨0,eB,eU⟩,[]⟩
theorem po0_expr:exprL po0= .ok [nO 11,nO 11,nTr,nTr,nTr]:=by
 have h:pof po0=0:=by kernel_rfl
 unfold exprL
 rw[if_pos h]
 rfl
theorem po0_po (w:World):PoA w po0 none 0:=by
 have hu:UOk eU:=⟨Nat.zero_le _,Nat.zero_le _⟩
 have hs:ScoOk ⟨0,eB,eU⟩:=⟨Nat.zero_le _,hu⟩
 exact⟨by unfold maxLen;show 1≤_;omega,hs,hs,hs,.inl rfl,Nat.le_refl _,Nat.zero_le _⟩
theorem pexpr_0 (w:World):Calls Tryz.prog 4 #[poV po0 none 0] w fun e w'=>(∃q c,e= .returned (.tuple #[.slice q 5 c,.nilIface]))∧Below w.heap.size w w':=by
 refine(pexpr_any po0 none 0 w (po0_po w)).mono ?_
 rintro e w' ⟨h1,h2⟩
 unfold ExpRet at h1
 rw[po0_expr]at h1
 obtain⟨q,c,rfl,_⟩:=h1
 exact⟨⟨q,c,rfl⟩,h2⟩
theorem expr_good {p:Po}{pc:Option Addr}{cc:Nat}{w:World}(h:PoA w p pc cc)(h0:pof p=0)(hl:(poE p).length≤200):
 Calls Tryz.prog 4 #[poV p pc cc] w fun e w'=>(∃q c,e= .returned (.tuple #[.slice q (poE p).length c,.nilIface])∧AK0 w' (poE p) q c)∧Below w.heap.size w w':=by
 refine(pexpr_any p pc cc w h).mono ?_
 rintro e w' ⟨h1,h2⟩
 have he:exprL p= .ok (poE p):=by unfold exprL;rw[if_pos h0,if_pos hl]
 unfold ExpRet at h1
 rw[he]at h1
 exact⟨h1,h2⟩
theorem expr_err {p:Po}{pc:Option Addr}{cc:Nat}{w:World}{n:Int}(h:PoA w p pc cc)(hn:exprL p= .error n):
 Calls Tryz.prog 4 #[poV p pc cc] w fun e w'=>e= .returned (.tuple #[.slice none 0 0,.iface 57 (.int .i64 n)])∧Below w.heap.size w w':=by
 refine(pexpr_any p pc cc w h).mono ?_
 rintro e w' ⟨h1,h2⟩
 unfold ExpRet at h1
 rw[hn]at h1
 exact⟨h1,h2⟩
theorem expr_new {p:Po}{pc:Option Addr}{cc:Nat}{w:World}(h:PoA w p pc cc)(h0:pof p=0)(hl:(poE p).length≤200):
 Calls Tryz.prog 4 #[poV p pc cc] w fun e w'=>(∃q c,e= .returned (.tuple #[.slice q (poE p).length c,.nilIface])∧AK0 w' (poE p) q c∧∀b o,q=some ⟨b,o,none⟩→w.heap.size≤b)∧Below w.heap.size w w':=by
 refine(pexpr_new p pc cc w h).mono ?_
 rintro e w' ⟨h1,h2⟩
 have he:exprL p= .ok (poE p):=by unfold exprL;rw[if_pos h0,if_pos hl]
 unfold ExpRetN at h1
 rw[he]at h1
 exact⟨h1,h2⟩
theorem exprL_ok {p:Po}{e:List Nd}(h:exprL p= .ok e):pof p=0∧(poE p).length≤200∧e=poE p:=by
 unfold exprL at h
 split at h
 · next h0=>
   split at h
   · next hl=>cases h;exact⟨h0,hl,rfl⟩
   · cases h
 · cases h
end Go.Proofs.YtpmkpfdhanmhiaaGreatDoor
