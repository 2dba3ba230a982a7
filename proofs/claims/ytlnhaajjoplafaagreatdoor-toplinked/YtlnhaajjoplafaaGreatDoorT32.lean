import Derived.Test.YtlnhaajjoplafaaGreatDoorT27
import Derived.Test.YtlnhaajjoplafaaGreatDoorT21
import Derived.Test.YtlnhaajjoplafaaGreatDoorT25
import Derived.Test.YtlnhaajjoplafaaGreatDoorT11
import Derived.Test.YtlnhaajjoplafaaGreatDoorT31
import Derived.Shelf.Abstract
import Derived.Test.YtlnhaajjoplafaaGreatDoorT12
set_option linter.unusedVariables false
set_option maxHeartbeats 12000000
namespace Go.Proofs.YtlnhaajjoplafaaGreatDoor
open Go.RowKit
set_option maxRecDepth 100000
structure PArg (w:World)(L:List Po)(n:Nat)(p:Option Addr)(c:Nat):Prop where
 len:L.length=n
 pl:PsL w p L
 le:n≤c
 cm:c≤maxLen
 num:∀x∈L,P64 x
theorem PArg.up {w w':World}{L:List Po}{n:Nat}{p:Option Addr}{c:Nat}(h:PArg w L n p c)(k:Below w.heap.size w w'):PArg w' L n p c:=⟨h.len,h.pl.up k,h.le,h.cm,h.num⟩
noncomputable def auE (es:List En) (q:Rq) (L:List Po):Int:=if stf es=0 then(if auC L=0 then askf q else auC L)else stf es
theorem auE_zero {es:List En}{q:Rq}{L:List Po}:auE es q L=0↔stf es=0∧auC L=0∧askf q=0:=by
 unfold auE
 by_cases h1:stf es=0
 · rw[if_pos h1]
   by_cases h2:auC L=0
   · rw[if_pos h2];exact⟨fun h=>⟨h1,h2,h⟩,fun h=>h.2.2⟩
   · rw[if_neg h2];exact⟨fun h=>absurd h h2,fun h=>absurd h.2.1 h2⟩
 · rw[if_neg h1];exact⟨fun h=>absurd h h1,fun h=>absurd h.1 h1⟩
structure AnsP (w:World)(es:List En)(q:Rq)(L:List Po)(v:Value):Prop where
 is:∃p1 c1 p2 c2,v= .agg #[.bool (auAl (auV es q) L),.slice p1 (auBy (auV es q) L).length c1,.slice p2 (auW (auV es q) L).length c2]∧TL w p1 (auBy (auV es q) L)∧TL w p2 (auW (auV es q) L)
def AuRet (w':World)(es:List En)(q:Rq)(L:List Po)(e:Ending):Prop:=
 if auE es q L=0 then ∃v,e= .returned (.tuple #[v,.nilIface])∧AnsP w' es q L v
 else e= .returned (.tuple #[.agg #[.bool false,.slice none 0 0,.slice none 0 0],.iface 70 (.int .i64 (auE es q L))])
theorem AuRet.good {w':World}{es:List En}{q:Rq}{L:List Po}{e:Ending}(h:AuRet w' es q L e)(h0:auE es q L=0):
 ∃p1 c1 p2 c2,e= .returned (.tuple #[.agg #[.bool (auAl (auV es q) L),.slice p1 (auBy (auV es q) L).length c1,.slice p2 (auW (auV es q) L).length c2],.nilIface])∧TL w' p1 (auBy (auV es q) L)∧TL w' p2 (auW (auV es q) L):=by
 unfold AuRet at h
 rw[if_pos h0]at h
 obtain⟨v,rfl,⟨p1,c1,p2,c2,rfl,h1,h2⟩⟩:=h
 exact⟨p1,c1,p2,c2,rfl,h1,h2⟩
theorem AuRet.bad {w':World}{es:List En}{q:Rq}{L:List Po}{e:Ending}(h:AuRet w' es q L e)(h0:auE es q L≠0):
 e= .returned (.tuple #[.agg #[.bool false,.slice none 0 0,.slice none 0 0],.iface 70 (.int .i64 (auE es q L))]):=by
 unfold AuRet at h
 rw[if_neg h0]at h
 exact h
structure AnsQ (w:World)(es:List En)(q:Rq)(L:List Po)(a:Bool)(p1:Option Addr)(n1:Nat)(p2:Option Addr)(n2:Nat):Prop where
 al:a=auAl (auV es q) L
 n1:n1=(auBy (auV es q) L).length
 n2:n2=(auW (auV es q) L).length
 t1:TL w p1 (auBy (auV es q) L)
 t2:TL w p2 (auW (auV es q) L)
theorem AnsQ.up {w w':World}{es:List En}{q:Rq}{L:List Po}{a:Bool}{p1:Option Addr}{n1:Nat}{p2:Option Addr}{n2:Nat}(h:AnsQ w es q L a p1 n1 p2 n2)(k:Below w.heap.size w w'):AnsQ w' es q L a p1 n1 p2 n2:=⟨h.al,h.n1,h.n2,h.t1.up k,h.t2.up k⟩
theorem AuRet.any {w':World}{es:List En}{q:Rq}{L:List Po}{e:Ending}(h:AuRet w' es q L e):
 ∃a p1 n1 c1 p2 n2 c2,e= .returned (.tuple #[.agg #[.bool a,.slice p1 n1 c1,.slice p2 n2 c2],eV (auE es q L)])∧(auE es q L=0→AnsQ w' es q L a p1 n1 p2 n2):=by
 by_cases h0:auE es q L=0
 · obtain⟨p1,c1,p2,c2,rfl,h1,h2⟩:=h.good h0
   exact⟨_,p1,_,c1,p2,_,c2,by rw[eV_nil h0],fun _=>⟨rfl,rfl,rfl,h1,h2⟩⟩
 · obtain rfl:=h.bad h0
   exact⟨false,none,0,0,none,0,0,by rw[eV_not h0],fun h=>absurd h h0⟩
theorem ev_nn {n:Int}(h:n≠0):∃x,eV n= .iface 70 x:=⟨_,eV_not h⟩
def qA0:Rq:=⟨⟨⟨#[65]⟩,eB⟩,⟨⟨#[65]⟩,eB⟩,⟨⟨#[65]⟩,eB⟩,[⟨6,0,⟨#[]⟩,⟨#[]⟩⟩]⟩
def pA1:Po:=⟨⟨#[97]⟩,false,⟨0,eB,eU⟩,⟨0,eB,eU⟩,⟨0,eB,eU⟩,[]⟩
theorem stf_nil:stf []=0:=by
 unfold stf
 rw[if_neg (by decide),if_pos (show lfault [] []=0 from rfl),if_neg]
 rintro⟨a,h,_⟩
 cases h
theorem auE_A:auE [] qA0 [pA1]=0:=by
 refine auE_zero.2 ⟨stf_nil,?_,by kernel_rfl⟩
 refine auC_zero.2 ⟨by decide,fun p hp=>?_,by simp⟩
 rw[List.mem_singleton]at hp
 subst hp
 exact⟨by kernel_rfl,by decide,rfl,rfl⟩
theorem auV_A:auV [] qA0 pA1=1:=rfl
theorem auAl_A:auAl (auV [] qA0) [pA1]=true:=by
 refine auAl_iff.2 ⟨fun p hp h=>?_,pA1,List.mem_singleton.2 rfl,rfl,auV_A⟩
 rw[List.mem_singleton]at hp
 subst hp
 exact absurd h.1 (by decide)
theorem auBy_A:(auBy (auV [] qA0) [pA1]).length=1:=by
 rw[(au_one pA1).1,if_pos auV_A]
 rfl
set_option linter.unusedSimpArgs false
def hasNm (s:ByteArray)(y:Po):Bool:=decide (y.nm=s)
theorem hasNm_map (s:ByteArray)(l:List Po):l.any (hasNm s)=(l.map Po.nm).any (fun t=>decide (t=s)):=by
 rw[List.any_map];rfl
theorem anyP_next {vs:List Po}{k:Nat}(h:k<vs.length)(p:Po→Bool):(vs.take (k+1)).any p=((vs.take k).any p || p vs[k]):=by
 rw[List.take_succ_eq_append_getElem h,List.any_append];simp
theorem anyP_hit {vs:List Po}{k:Nat}(h:k<vs.length){p:Po→Bool}(hp:p vs[k]=true):vs.any p=true:=
 List.any_eq_true.2 ⟨_,List.getElem_mem h,hp⟩
theorem PsL.take {w:World}{p:Option Addr}{ps:List Po}(h:PsL w p ps)(k:Nat):PsL w p (ps.take k):=by
 rcases h with rfl | ⟨b,off,h1,h2,h3⟩
 · exact .inl (by simp)
 · refine .inr ⟨b,off,h1,h2,fun i x hx=>h3 i x ?_⟩
   rw[List.getElem?_take]at hx
   split at hx
   · exact hx
   · cases hx
theorem sameNm_any (B:Nat)(s:ByteArray)(y:Po)(pc:Option Addr)(cc:Nat)(w:World)(hB:B<w.heap.size)(c0:w.cell? ⟨B,0,none⟩=some (.string s)):
 Calls Tryz.prog 50 #[poV y pc cc,.pointer (some ⟨B,0,none⟩)] w fun e w'=>e= .returned (.bool (hasNm s y))∧Below w.heap.size w w':=by
 obtain⟨W,hW⟩:∃W,W=w.alloc (.cells (poC y pc cc) 29):=⟨_,rfl⟩
 have hbW:Below w.heap.size w W:=by rw[hW];exact kqx
 have hB2:B<W.heap.size:=Nat.lt_of_lt_of_le hB hbW.size
 have d0:W.cell? ⟨B,0,none⟩=some (.string s):=(hbW.cell (p:=⟨B,0,none⟩) hB).trans c0
 have hk:Blk W w.heap.size (poC y pc cc) 29:=by rw[hW];exact Blk.new _ _ _ rfl
 have z0:W.cell? ⟨w.heap.size,0,none⟩=some (.string y.nm):=hk.cell 0
 have lz:=hk.lt
 clear hk
 unfold poC at hW
 unfold poV
 by_cases hs:y.nm=s
 · have hr:Hid (hasNm s y=true):=decide_eq_true hs
   rw[hr.out]
   subst hs
   go_enter Tryz.func50,Tryz.ntmps50
   go_wp2_with fail
   rw[←hW]
   clear hW
   go_wp2_with fail
   go_ret
   exact⟨by simp,hbW⟩
 · have hr:Hid (hasNm s y=false):=decide_eq_false hs
   rw[hr.out]
   go_enter Tryz.func50,Tryz.ntmps50
   go_wp2_with fail
   rw[←hW]
   clear hW
   go_wp2_with fail
   go_ret
   exact⟨by simp;exact fun e=>hs (bytes_inj (by simpa only[ByteArray.toList_eq]using e)),hbW⟩
theorem indexP_any (vs:List Po)(p:Option Addr)(c:Nat)(B:Nat)(s:ByteArray)(w:World)(hv:PsL w p vs)(hl:vs.length≤12)(hB:B<w.heap.size)(c0:w.cell? ⟨B,0,none⟩=some (.string s)):
 Calls Tryz.prog 72 #[.slice p vs.length c,.func (.func 50) #[] #[.pointer (some ⟨B,0,none⟩)]] w fun e w'=>(∃n:Int,e= .returned (.int .i64 n)∧decide (0≤n)=vs.any (hasNm s))∧Below w.heap.size w w':=by
 have eg:∀args w,(callFunc 50 args).run Tryz.prog w= .ok (.enter 50 args) w:=enters_of Tryz.func50 (by kernel_rfl) rfl
 have HC0:Hid (∀W,Below w.heap.size w W→B<W.heap.size∧W.cell? ⟨B,0,none⟩=some (.string s)):=fun W hW=>⟨Nat.lt_of_lt_of_le hB hW.size,(hW.cell (p:=⟨B,0,none⟩) hB).trans c0⟩
 have HV:Hid (PsL w p vs):=hv
 clear hv hB c0
 go_enter Tryz.func72,Tryz.ntmps72
 go_wp2
 go_loopw [8] (fun i wr=>∃k:Nat,k≤vs.length∧i= .int .i64 k∧Hid ((vs.take k).any (hasNm s)=false)∧Hid (Below w.heap.size w wr)) (fun i _=>vs.length-(intOf i).toNat)
 case atStart=>exact⟨0,Nat.zero_le _,rfl,by simp[Hid],Below.refl _ _⟩
 case round=>
  obtain⟨k,hk,rfl,HA,hb⟩:=hrel
  by_cases hlt:k<vs.length
  · have i1:(k:Int)<(vs.length:Int):=by omega
    obtain⟨b,off,pc,cc,e0,hbw,hpo,k0,k1,k2,k3,k4,k5,k6,k7,k8,k9,k10,k11,k12,k13,k14⟩:=(HV.out.up hb.out).at hlt
    subst e0
    have HN:Hid (_=_):=anyP_next hlt (hasNm s)
    have HH:Hid (_→_):=anyP_hit hlt (p:=hasNm s)
    have H1:=sameNm_any B s vs[k] pc cc wr (HC0.out wr hb.out).1 (HC0.out wr hb.out).2
    generalize vs[k]=y at *
    clear hpo
    unfold poV at H1
    cases ha:hasNm s y
    · rw[ha]at H1
      have HA2:Hid ((vs.take (k+1)).any (hasNm s)=false):=by show _=_;rw[HN.out,HA.out,ha];rfl
      clear HN HH HA ha
      go_wp2_with (go_at_fn 50;refine H1.mono ?_;rintro e w1 ⟨rfl,hb1⟩)
      go_roundw
      case rel=>exact⟨k+1,by omega,by go_num,HA2,kqt hb.out hb1⟩
      case measure=>simp[intOf];omega
    · rw[ha]at H1
      have HA2:Hid (vs.any (hasNm s)=true):=HH.out ha
      clear HN HH HA ha
      go_wp2_with (go_at_fn 50;refine H1.mono ?_;rintro e w1 ⟨rfl,hb1⟩)
      go_ret
      exact⟨⟨_,rfl,by rw[HA2.out];simp⟩,kqt hb.out hb1⟩
  · have i1:¬(k:Int)<(vs.length:Int):=by omega
    have HA2:Hid (vs.any (hasNm s)=false):=by
     have:=HA.out
     rw[List.take_of_length_le (by omega)]at this
     exact this
    go_wp2
    go_ret
    exact⟨⟨_,rfl,by rw[HA2.out];decide⟩,hb.out⟩
theorem containsP_any (vs:List Po)(n:Nat)(hn:vs.length=n)(p:Option Addr)(c:Nat)(B:Nat)(s:ByteArray)(w:World)(hv:PsL w p vs)(hl:vs.length≤12)(hB:B<w.heap.size)(c0:w.cell? ⟨B,0,none⟩=some (.string s)):
 Calls Tryz.prog 49 #[.slice p n c,.func (.func 50) #[] #[.pointer (some ⟨B,0,none⟩)]] w fun e w'=>e= .returned (.bool (vs.any (hasNm s)))∧Below w.heap.size w w':=by
 subst hn
 have H1:=indexP_any vs p c B s w hv hl hB c0
 clear hv hB c0 hl
 go_enter Tryz.func49,Tryz.ntmps49
 go_wp2_with fail
 refine H1.mono ?_
 rintro e w1 ⟨⟨n,rfl,hn⟩,hb⟩
 go_wp2
 go_ret
 exact⟨by rw[←hn];rfl,hb⟩
def ExOf (w:World)(vs:List Po)(p:Po)(w':World)(e:Ending):Prop:=
 if auF (vs.map Po.nm) p=0 then ∃q c,e= .returned (.tuple #[.slice q (poE p).length c,.nilIface])∧AK0 w' (poE p) q c∧∀b o,q=some ⟨b,o,none⟩→w.heap.size≤b else e= .returned (.tuple #[.slice none 0 0,.iface 70 (.int .i64 (auF (vs.map Po.nm) p))])
theorem ExOf.good {w:World}{vs:List Po}{p:Po}{w':World}{e:Ending}(h:ExOf w vs p w' e)(h0:auF (vs.map Po.nm) p=0):∃q c,e= .returned (.tuple #[.slice q (poE p).length c,.nilIface])∧AK0 w' (poE p) q c∧∀b o,q=some ⟨b,o,none⟩→w.heap.size≤b:=by
 unfold ExOf at h
 rwa [if_pos h0]at h
theorem ExOf.bad {w:World}{vs:List Po}{p:Po}{w':World}{e:Ending}(h:ExOf w vs p w' e)(h0:auF (vs.map Po.nm) p≠0):e= .returned (.tuple #[.slice none 0 0,.iface 70 (.int .i64 (auF (vs.map Po.nm) p))]):=by
 unfold ExOf at h
 rwa [if_neg h0]at h
theorem slL_no {p:Po}(h1:hsl p.who=false)(h2:hsl p.what=false):slL p=[]:=by unfold slL;rw[h1,h2];rfl
theorem slL_some {p:Po}(h:(hsl p.who || hsl p.what)=true):0<(slL p).length:=by
 unfold slL
 cases h1:hsl p.who
 · cases h2:hsl p.what
   · rw[h1,h2]at h;cases h
   · simp
 · simp
section
variable (p:Po) (pc:Option Addr) (cc:Nat) (vs:List Po) (n:Nat) (pe:Option Addr) (ce:Nat) (w:World) (h:PoA w p pc cc) (hv:PsL w pe vs) (hn:vs.length=n) (hl:n≤12)
include h hv hn hl
omit hv hn hl in
theorem exprOf_wrong (h0:pof p≠0):
 Calls Tryz.prog 31 #[poV p pc cc,.slice pe n ce] w fun e w'=>ExOf w vs p w' e∧Below w.heap.size w w':=by
 obtain⟨V,hV⟩:∃V,V=w.alloc (.cells (poC p pc cc) 29):=⟨_,rfl⟩
 have hbV:Below w.heap.size w V:=by rw[hV];exact kqx
 have HBk:Hid (∀W,Below V.heap.size V W→Blk W w.heap.size (poC p pc cc) 29):=fun W hW=>by
  have hb:Blk V w.heap.size (poC p pc cc) 29:=by rw[hV];exact Blk.new w _ _ rfl
  exact hb.up hW
 have HS:=slots_wrong (h.up hbV) rfl h0
 have HR:Hid (∀W,ExOf w vs p W (.returned (.tuple #[.slice none 0 0,.iface 70 (.int .i64 (pof p))]))):=fun W=>by
  have e:auF (vs.map Po.nm) p=pof p:=by unfold auF;rw[if_neg h0]
  show ExOf _ _ _ _ _
  unfold ExOf
  rw[e,if_neg h0]
 generalize pof p=m at *
 clear h h0
 unfold poC at hV
 unfold poV at *
 go_enter Tryz.func31,Tryz.ntmps31
 go_wp2_with fail
 rw[←hV]
 clear hV
 refine HS.mono ?_
 rintro _ w1 ⟨rfl,hb1⟩
 clear HS
 go_wp2_with fail
 go_ret2
 exact⟨HR.out _,kqt hbV hb1⟩
theorem exprOf_twice (h0:pof p=0)(h1:(vs.map Po.nm).any (fun t=>decide (t=p.nm))=true):
 Calls Tryz.prog 31 #[poV p pc cc,.slice pe n ce] w fun e w'=>ExOf w vs p w' e∧Below w.heap.size w w':=by
 obtain⟨V,hV⟩:∃V,V=w.alloc (.cells (poC p pc cc) 29):=⟨_,rfl⟩
 have hbV:Below w.heap.size w V:=by rw[hV];exact kqx
 have HBk:Hid (∀W,Below V.heap.size V W→Blk W w.heap.size (poC p pc cc) 29):=fun W hW=>by
  have hb:Blk V w.heap.size (poC p pc cc) 29:=by rw[hV];exact Blk.new w _ _ rfl
  exact hb.up hW
 obtain⟨L,hL⟩:∃L,slL p=L:=⟨_,rfl⟩
 have HS:=slots_good (h.up hbV) h0 hL
 have HC:=fun W (hW:Below V.heap.size V W)=>containsP_any vs n hn pe ce w.heap.size p.nm W (hv.up (kqt hbV hW)) (by omega) (HBk.out W hW).lt ((HBk.out W hW).cell 0)
 rw[hasNm_map]at HC
 rw[h1]at HC
 have HR:Hid (∀W,ExOf w vs p W (.returned (.tuple #[.slice none 0 0,.iface 70 (.int .i64 6)]))):=fun W=>by
  have e:auF (vs.map Po.nm) p=6:=by unfold auF;rw[if_pos h0,if_pos h1]
  show ExOf _ _ _ _ _
  unfold ExOf
  rw[e,if_neg (by decide)]
 clear h hv h0 h1 hL
 unfold poC at hV
 unfold poV at *
 go_enter Tryz.func31,Tryz.ntmps31
 go_wp2_with fail
 rw[←hV]
 clear hV
 refine HS.mono ?_
 rintro _ w1 ⟨⟨qs,cs,rfl,_⟩,hb1⟩
 clear HS
 have hB:=HBk.out w1 hb1
 obtain⟨x0,x1,x2,x3,x4,x5,x6,x7,x8,x9,x10,x11,x12,x13,x14⟩:=po_cells hB
 have hlt:w.heap.size<w1.heap.size:=hB.lt
 clear hB
 go_wp2_with fail
 refine(HC _ hb1).mono ?_
 rintro _ w2 ⟨rfl,hb2'⟩
 have hb2:Below V.heap.size V w2:=kqt hb1 hb2'
 clear HC hb2' hb1
 clear hlt x0 x1 x2 x3 x4 x5 x6 x7 x8 x9 x10 x11 x12 x13 x14
 go_wp2_with fail
 go_ret2
 exact⟨HR.out _,kqt hbV hb2⟩
theorem exprOf_great (h0:pof p=0)(h1:(vs.map Po.nm).any (fun t=>decide (t=p.nm))=false)(h2:¬(poE p).length≤200):
 Calls Tryz.prog 31 #[poV p pc cc,.slice pe n ce] w fun e w'=>ExOf w vs p w' e∧Below w.heap.size w w':=by
 obtain⟨V,hV⟩:∃V,V=w.alloc (.cells (poC p pc cc) 29):=⟨_,rfl⟩
 have hbV:Below w.heap.size w V:=by rw[hV];exact kqx
 have HBk:Hid (∀W,Below V.heap.size V W→Blk W w.heap.size (poC p pc cc) 29):=fun W hW=>by
  have hb:Blk V w.heap.size (poC p pc cc) 29:=by rw[hV];exact Blk.new w _ _ rfl
  exact hb.up hW
 obtain⟨L,hL⟩:∃L,slL p=L:=⟨_,rfl⟩
 have HS:=slots_good (h.up hbV) h0 hL
 have HC:=fun W (hW:Below V.heap.size V W)=>containsP_any vs n hn pe ce w.heap.size p.nm W (hv.up (kqt hbV hW)) (by omega) (HBk.out W hW).lt ((HBk.out W hW).cell 0)
 rw[hasNm_map]at HC
 rw[h1]at HC
 have HE:=fun W (hW:Below V.heap.size V W)=>expr_great (h.up (kqt hbV hW)) h0 h2
 have HR:Hid (∀W,ExOf w vs p W (.returned (.tuple #[.slice none 0 0,.iface 70 (.int .i64 4)]))):=fun W=>by
  have e:auF (vs.map Po.nm) p=4:=by unfold auF;rw[if_pos h0,if_neg (by rw[h1];decide),if_neg h2]
  show ExOf _ _ _ _ _
  unfold ExOf
  rw[e,if_neg (by decide)]
 clear h hv h0 h1 h2 hL
 unfold poC at hV
 unfold poV at *
 go_enter Tryz.func31,Tryz.ntmps31
 go_wp2_with fail
 rw[←hV]
 clear hV
 refine HS.mono ?_
 rintro _ w1 ⟨⟨qs,cs,rfl,_⟩,hb1⟩
 clear HS
 have hB:=HBk.out w1 hb1
 obtain⟨x0,x1,x2,x3,x4,x5,x6,x7,x8,x9,x10,x11,x12,x13,x14⟩:=po_cells hB
 have hlt:w.heap.size<w1.heap.size:=hB.lt
 clear hB
 go_wp2_with fail
 refine(HC _ hb1).mono ?_
 rintro _ w2 ⟨rfl,hb2'⟩
 have hb2:Below V.heap.size V w2:=kqt hb1 hb2'
 clear HC hb2' hb1
 clear hlt x0 x1 x2 x3 x4 x5 x6 x7 x8 x9 x10 x11 x12 x13 x14
 have hB:=HBk.out w2 hb2
 obtain⟨x0,x1,x2,x3,x4,x5,x6,x7,x8,x9,x10,x11,x12,x13,x14⟩:=po_cells hB
 have hlt:w.heap.size<w2.heap.size:=hB.lt
 clear hB
 go_wp2_with fail
 refine(HE _ hb2).mono ?_
 rintro _ w3 ⟨rfl,hb3'⟩
 have hb3:Below V.heap.size V w3:=kqt hb2 hb3'
 clear HE hb3' hb2
 clear hlt x0 x1 x2 x3 x4 x5 x6 x7 x8 x9 x10 x11 x12 x13 x14
 go_wp2_with fail
 go_ret2
 exact⟨HR.out _,kqt hbV hb3⟩
theorem exprOf_slot (h0:pof p=0)(h1:(vs.map Po.nm).any (fun t=>decide (t=p.nm))=false)(h2:(poE p).length≤200)(h3:(hsl p.who || hsl p.what)=true):
 Calls Tryz.prog 31 #[poV p pc cc,.slice pe n ce] w fun e w'=>ExOf w vs p w' e∧Below w.heap.size w w':=by
 obtain⟨V,hV⟩:∃V,V=w.alloc (.cells (poC p pc cc) 29):=⟨_,rfl⟩
 have hbV:Below w.heap.size w V:=by rw[hV];exact kqx
 have HBk:Hid (∀W,Below V.heap.size V W→Blk W w.heap.size (poC p pc cc) 29):=fun W hW=>by
  have hb:Blk V w.heap.size (poC p pc cc) 29:=by rw[hV];exact Blk.new w _ _ rfl
  exact hb.up hW
 obtain⟨L,hL⟩:∃L,slL p=L:=⟨_,rfl⟩
 have HS:=slots_good (h.up hbV) h0 hL
 have HC:=fun W (hW:Below V.heap.size V W)=>containsP_any vs n hn pe ce w.heap.size p.nm W (hv.up (kqt hbV hW)) (by omega) (HBk.out W hW).lt ((HBk.out W hW).cell 0)
 rw[hasNm_map]at HC
 rw[h1]at HC
 have HE:=fun W (hW:Below V.heap.size V W)=>expr_new (h.up (kqt hbV hW)) h0 h2
 have i1:0<L.length:=by rw[←hL];exact slL_some h3
 have HR:Hid (∀W,ExOf w vs p W (.returned (.tuple #[.slice none 0 0,.iface 70 (.int .i64 1)]))):=fun W=>by
  have e:auF (vs.map Po.nm) p=1:=by unfold auF;rw[if_pos h0,if_neg (by rw[h1];decide),if_pos h2,if_pos h3]
  show ExOf _ _ _ _ _
  unfold ExOf
  rw[e,if_neg (by decide)]
 generalize poE p=E at *
 clear h hv h0 h1 h2 h3 hL
 unfold poC at hV
 unfold poV at *
 go_enter Tryz.func31,Tryz.ntmps31
 go_wp2_with fail
 rw[←hV]
 clear hV
 refine HS.mono ?_
 rintro _ w1 ⟨⟨qs,cs,rfl,_⟩,hb1⟩
 clear HS
 have hB:=HBk.out w1 hb1
 obtain⟨x0,x1,x2,x3,x4,x5,x6,x7,x8,x9,x10,x11,x12,x13,x14⟩:=po_cells hB
 have hlt:w.heap.size<w1.heap.size:=hB.lt
 clear hB
 go_wp2_with fail
 refine(HC _ hb1).mono ?_
 rintro _ w2 ⟨rfl,hb2'⟩
 have hb2:Below V.heap.size V w2:=kqt hb1 hb2'
 clear HC hb2' hb1
 clear hlt x0 x1 x2 x3 x4 x5 x6 x7 x8 x9 x10 x11 x12 x13 x14
 have hB:=HBk.out w2 hb2
 obtain⟨x0,x1,x2,x3,x4,x5,x6,x7,x8,x9,x10,x11,x12,x13,x14⟩:=po_cells hB
 have hlt:w.heap.size<w2.heap.size:=hB.lt
 clear hB
 go_wp2_with fail
 refine(HE _ hb2).mono ?_
 rintro _ w3 ⟨⟨q,c,rfl,hq,hq2⟩,hb3'⟩
 have hb3:Below V.heap.size V w3:=kqt hb2 hb3'
 have HQ:Hid (AK0 w3 E q c):=hq
 have HQ2:Hid (∀b o,q=some ⟨b,o,none⟩→w.heap.size≤b):=fun b o e=>Nat.le_trans (kqt hbV hb2).size (hq2 b o e)
 clear HE hb3' hb2 hq hq2
 clear hlt x0 x1 x2 x3 x4 x5 x6 x7 x8 x9 x10 x11 x12 x13 x14
 go_wp2_with fail
 go_ret2
 exact⟨HR.out _,kqt hbV hb3⟩
theorem exprOf_good (h0:pof p=0)(h1:(vs.map Po.nm).any (fun t=>decide (t=p.nm))=false)(h2:(poE p).length≤200)(h3:hsl p.who=false)(h4:hsl p.what=false):
 Calls Tryz.prog 31 #[poV p pc cc,.slice pe n ce] w fun e w'=>ExOf w vs p w' e∧Below w.heap.size w w':=by
 obtain⟨V,hV⟩:∃V,V=w.alloc (.cells (poC p pc cc) 29):=⟨_,rfl⟩
 have hbV:Below w.heap.size w V:=by rw[hV];exact kqx
 have HBk:Hid (∀W,Below V.heap.size V W→Blk W w.heap.size (poC p pc cc) 29):=fun W hW=>by
  have hb:Blk V w.heap.size (poC p pc cc) 29:=by rw[hV];exact Blk.new w _ _ rfl
  exact hb.up hW
 obtain⟨L,hL⟩:∃L,slL p=L:=⟨_,rfl⟩
 have HS:=slots_good (h.up hbV) h0 hL
 have HC:=fun W (hW:Below V.heap.size V W)=>containsP_any vs n hn pe ce w.heap.size p.nm W (hv.up (kqt hbV hW)) (by omega) (HBk.out W hW).lt ((HBk.out W hW).cell 0)
 rw[hasNm_map]at HC
 rw[h1]at HC
 have HE:=fun W (hW:Below V.heap.size V W)=>expr_new (h.up (kqt hbV hW)) h0 h2
 have i1:¬ 0<L.length:=by rw[←hL,slL_no h3 h4];simp
 have i2:L.length=0:=by omega
 have HR:Hid (∀W q c,AK0 W (poE p) q c→(∀b o,q=some ⟨b,o,none⟩→w.heap.size≤b)→ExOf w vs p W (.returned (.tuple #[.slice q (poE p).length c,.nilIface]))):=fun W q c hq hq2=>by
  have e:auF (vs.map Po.nm) p=0:=by unfold auF;rw[if_pos h0,if_neg (by rw[h1];decide),if_pos h2,if_neg (by rw[h3,h4];decide)]
  show ExOf _ _ _ _ _
  unfold ExOf
  rw[if_pos e]
  exact⟨q,c,rfl,hq,hq2⟩
 generalize poE p=E at *
 clear h hv h0 h1 h2 h3 h4 hL
 unfold poC at hV
 unfold poV at *
 go_enter Tryz.func31,Tryz.ntmps31
 go_wp2_with fail
 rw[←hV]
 clear hV
 refine HS.mono ?_
 rintro _ w1 ⟨⟨qs,cs,rfl,_⟩,hb1⟩
 clear HS
 have hB:=HBk.out w1 hb1
 obtain⟨x0,x1,x2,x3,x4,x5,x6,x7,x8,x9,x10,x11,x12,x13,x14⟩:=po_cells hB
 have hlt:w.heap.size<w1.heap.size:=hB.lt
 clear hB
 go_wp2_with fail
 refine(HC _ hb1).mono ?_
 rintro _ w2 ⟨rfl,hb2'⟩
 have hb2:Below V.heap.size V w2:=kqt hb1 hb2'
 clear HC hb2' hb1
 clear hlt x0 x1 x2 x3 x4 x5 x6 x7 x8 x9 x10 x11 x12 x13 x14
 have hB:=HBk.out w2 hb2
 obtain⟨x0,x1,x2,x3,x4,x5,x6,x7,x8,x9,x10,x11,x12,x13,x14⟩:=po_cells hB
 have hlt:w.heap.size<w2.heap.size:=hB.lt
 clear hB
 go_wp2_with fail
 refine(HE _ hb2).mono ?_
 rintro _ w3 ⟨⟨q,c,rfl,hq,hq2⟩,hb3'⟩
 have hb3:Below V.heap.size V w3:=kqt hb2 hb3'
 have HQ:Hid (AK0 w3 E q c):=hq
 have HQ2:Hid (∀b o,q=some ⟨b,o,none⟩→w.heap.size≤b):=fun b o e=>Nat.le_trans (kqt hbV hb2).size (hq2 b o e)
 clear HE hb3' hb2 hq hq2
 clear hlt x0 x1 x2 x3 x4 x5 x6 x7 x8 x9 x10 x11 x12 x13 x14
 go_wp2_with fail
 go_ret2
 exact⟨HR.out _ _ _ HQ.out HQ2.out,kqt hbV hb3⟩
theorem exprOf_any:
 Calls Tryz.prog 31 #[poV p pc cc,.slice pe n ce] w fun e w'=>ExOf w vs p w' e∧Below w.heap.size w w':=by
 by_cases h0:pof p=0
 · cases h1:(vs.map Po.nm).any (fun t=>decide (t=p.nm))
   · by_cases h2:(poE p).length≤200
     · cases h3:hsl p.who
       · cases h4:hsl p.what
         · exact exprOf_good p pc cc vs n pe ce w h hv hn hl h0 h1 h2 h3 h4
         · exact exprOf_slot p pc cc vs n pe ce w h hv hn hl h0 h1 h2 (by rw[h3,h4];rfl)
       · exact exprOf_slot p pc cc vs n pe ce w h hv hn hl h0 h1 h2 (by rw[h3];rfl)
     · exact exprOf_great p pc cc vs n pe ce w h hv hn hl h0 h1 h2
   · exact exprOf_twice p pc cc vs n pe ce w h hv hn hl h0 h1
 · exact exprOf_wrong p pc cc vs n pe ce w h h0
end
theorem poE_ne (p:Po):poE p≠[]:=by
 unfold poE andsL
 intro e
 have:=congrArg List.length e
 simp at this
theorem auL_step (L:List Po)(k:Nat)(hk:k<L.length):auL ((L.take k).map Po.nm) (L.drop k)=if auF ((L.take k).map Po.nm) L[k]=0 then auL ((L.take (k+1)).map Po.nm) (L.drop (k+1))else auF ((L.take k).map Po.nm) L[k]:=by
 rw[List.drop_eq_getElem_cons hk,List.take_succ_eq_append_getElem hk,List.map_append]
 rfl
def ExsOf (L:List Po)(w':World)(e:Ending):Prop:=
 if auC L=0 then ∃q c,e= .returned (.tuple #[.slice q L.length c,.nilIface])∧LL w' q (L.map poE)else e= .returned (.tuple #[.slice none 0 0,.iface 70 (.int .i64 (auC L))])
section
variable (L:List Po) (n:Nat) (pl:Option Addr) (cl:Nat) (w:World) (hp:PArg w L n pl cl)
include hp
theorem exprsOf_full (h1:¬L.length≤12):
 Calls Tryz.prog 15 #[.slice pl n cl] w fun e w'=>ExsOf L w' e∧Below w.heap.size w w':=by
 have HR:Hid (∀W,ExsOf L W (.returned (.tuple #[.slice none 0 0,.iface 70 (.int .i64 4)]))):=fun W=>by
  have e:auC L=4:=by unfold auC;rw[if_neg h1]
  show ExsOf _ _ _
  unfold ExsOf
  rw[e,if_neg (by decide)]
 have i1:(12:Int)<(n:Int):=by have:=hp.len;omega
 clear hp h1
 go_enter Tryz.func15,Tryz.ntmps15
 go_wp2_with fail
 go_ret2
 exact⟨HR.out _,Below.refl _ _⟩
theorem exprsOf_small (h1:L.length≤12):
 Calls Tryz.prog 15 #[.slice pl n cl] w fun e w'=>ExsOf L w' e∧Below w.heap.size w w':=by
 have HP:Hid (PArg w L n pl cl):=hp
 have HAC:Hid (auC L=auL [] L):=by show _=_;unfold auC;rw[if_pos h1]
 have hn12:n≤12:=by have:=hp.len;omega
 have i0:¬(12:Int)<(n:Int):=by omega
 have HN:Hid (n=L.length):=hp.len.symm
 have hle:=hp.le
 have hcm:=hp.cm
 unfold maxLen at hcm
 clear hp h1
 go_enter Tryz.func15,Tryz.ntmps15
 go_wp2_with fail
 go_loopw [4,15] (fun v i wr=>∃k:Nat,k≤n∧i= .int .i64 k∧Hid (Below w.heap.size w wr)∧Hid (TRow wr w.heap.size v ((L.take k).map poE))∧Hid (auL ((L.take k).map Po.nm) (L.drop k)=auL [] L)) (fun _ i _=>n-(intOf i).toNat)
 case atStart=>exact⟨0,Nat.zero_le _,rfl,Below.refl _ _,TRow.nil _ _,rfl⟩
 case round=>
  obtain⟨k,hk,rfl,HB,HT,HL⟩:=hrel
  by_cases hlt:k<n
  · have i1:(k:Int)<(n:Int):=by omega
    have hkl:k<L.length:=by have:=HN.out;omega
    obtain⟨b,off,pc,cc,e0,hbw,hpo,k0,k1,k2,k3,k4,k5,k6,k7,k8,k9,k10,k11,k12,k13,k14⟩:=(HP.out.pl.up HB.out).at hkl
    subst e0
    have HS:=auL_step L k hkl
    have HTK:Hid ((L.take (k+1)).map poE=(L.take k).map poE++[poE L[k]]):=by show _=_;rw[List.take_succ_eq_append_getElem hkl,List.map_append];rfl
    have HEN:Hid (poE L[k]≠[]):=poE_ne _
    have HX:Hid (∀W,Below wr.heap.size wr W→∀ce,Calls Tryz.prog 31 #[poV L[k] pc cc,.slice (some ⟨b,off,none⟩) k ce] W fun e w'=>ExOf W (L.take k) L[k] w' e∧Below W.heap.size W w'):=fun W hW ce=>
     exprOf_any L[k] pc cc (L.take k) k (some ⟨b,off,none⟩) ce W (hpo.up hW) (((HP.out.pl.up HB.out).up hW).take k) (by rw[List.length_take];omega) (by omega)
    generalize L[k]=y at *
    have HTL:Hid (((L.take k).map poE).length=k):=by show _=_;rw[List.length_map,List.length_take];omega
    obtain⟨qt,ct,hqt,_⟩:=HT.out.slice
    rw[HTL.out]at hqt
    subst hqt
    have HQT:Hid (TRow wr w.heap.size (.slice qt k ct) ((L.take k).map poE)):=HT.out
    obtain⟨W5,hW5⟩:∃W,W=wr.alloc (.cells (poC y pc cc) 29):=⟨_,rfl⟩
    have hb5:Below wr.heap.size wr W5:=by rw[hW5];exact kqx
    have HX5:=fun W (hW:Below W5.heap.size W5 W)=>HX.out W (kqt hb5 hW)
    have hBk:Blk W5 wr.heap.size (poC y pc cc) 29:=by rw[hW5];exact Blk.new _ _ _ rfl
    obtain⟨x0,x1,x2,x3,x4,x5,x6,x7,x8,x9,x10,x11,x12,x13,x14⟩:=po_cells hBk
    have xlt:wr.heap.size<W5.heap.size:=hBk.lt
    have HX0:Hid (∀W,Below W5.heap.size W5 W→Blk W wr.heap.size (poC y pc cc) 29):=fun W hW=>hBk.up hW
    unfold poC at hW5
    unfold poV at HX5
    clear hBk
    clear hpo HX HT
    by_cases hf:auF ((L.take k).map Po.nm) y=0
    · rw[if_pos hf]at HS
      have HL2:Hid (auL ((L.take (k+1)).map Po.nm) (L.drop (k+1))=auL [] L):=by show _=_;rw[←HS];exact HL.out
      have HG:=fun W hW ce=>(HX5 W hW ce).mono (fun e w' h=>show(∃q c,e= .returned (.tuple #[.slice q (poE y).length c,.nilIface])∧AK0 w' (poE y) q c∧∀b o,q=some ⟨b,o,none⟩→W.heap.size≤b)∧Below W.heap.size W w' from⟨h.1.good hf,h.2⟩)
      obtain⟨E,hE⟩:∃E,E=poE y:=⟨_,rfl⟩
      rw[←hE]at HG HTK HEN
      obtain⟨ne,hne⟩:∃m,m=E.length:=⟨_,rfl⟩
      rw[←hne]at HG
      have HNE:Hid (ne=E.length):=hne
      clear HS HL hf HX5 hE hne
      go_wp2_with fail
      rw[←hW5]
      clear hW5
      clear k0 k1 k2 k3 k4 k5 k6 k7 k8 k9 k10 k11 k12 k13 k14 hbw
      go_region_with (go_at_call 31;refine(HG _ kqx _).mono ?_;rintro _ w6 ⟨⟨q6,c6,rfl,hA6,hq6'⟩,hb6'⟩;have hb6:Below W5.heap.size W5 w6:=kqt kqx hb6';have hq6:∀b o,q6=some ⟨b,o,none⟩→W5.heap.size≤b:=(fun b o e=>by have:=hq6' b o e;simpa using this);clear hq6' hb6')
      all_goals
       clear HG x0 x1 x2 x3 x4 x5 x6 x7 x8 x9 x10 x11 x12 x13 x14 xlt
       have hbw6:Below wr.heap.size wr w6:=kqt hb5 hb6
       have hb06:Below w.heap.size w w6:=kqt HB.out hbw6
       have hb6s:=hb06.size
       have HT6:Hid (TRow w6 w.heap.size (.slice qt k ct) ((L.take k).map poE)):=HQT.out.up hbw6
       have HA6:Hid (AK0 w6 E q6 c6):=hA6
       have HAP:Hid (∀b o,q6=some ⟨b,o,none⟩→b<w6.heap.size∧(Value.slice qt k ct).ownBlock≠some b):=fun b o e=>⟨HA6.out.lt HEN.out e,fun e2=>by
        have h1:=HQT.out.own e2
        have h2:=hq6 b o e
        have h3:=hb5.size
        omega⟩
       have HHb:Hid (Below w.heap.size w w6):=hb06
       clear hA6 hq6 hb06 hbw6
       go_wp2_with (first | (at_builtin;refine Hid.out ?_))
       show wpList _ _ _ _ _ _
       refine append_rowT w6 rfl (.tmp 31) (.tmp 33) rfl w.heap.size (.slice qt k ct) ((L.take k).map poE) rfl HT6.out E q6 c6 HA6.out HAP.out rfl (by have:=HTL.out;omega) hb6s HNE.out.symm ?_
       intro v8 w8 hT8 hK8
       have HB8:Hid (Below w.heap.size w w8):=HHb.out.trans (hK8.below hb6s (fun b e=>(HT6.out.own e).2))
       have HT8:Hid (TRow w8 w.heap.size v8 ((L.take (k+1)).map poE)):=by rw[HTK.out];exact hT8
       clear hT8 hK8 HT6 HAP HQT
       go_wp2_with fail
       go_roundw
       case rel=>exact⟨k+1,by omega,by go_num,HB8,HT8,HL2⟩
       case measure=>simp[intOf];omega
    · rw[if_neg hf]at HS
      have HG:=fun W hW ce=>(HX5 W hW ce).mono (fun e w' h=>show e= .returned (.tuple #[.slice none 0 0,.iface 70 (.int .i64 (auF ((L.take k).map Po.nm) y))])∧Below W.heap.size W w' from⟨h.1.bad hf,h.2⟩)
      have HR:Hid (∀W,ExsOf L W (.returned (.tuple #[.slice none 0 0,.iface 70 (.int .i64 (auF ((L.take k).map Po.nm) y))]))):=fun W=>by
       have e:auC L=auF ((L.take k).map Po.nm) y:=by rw[HAC.out,←HL.out,HS]
       show ExsOf _ _ _
       unfold ExsOf
       rw[e,if_neg hf]
      generalize auF ((L.take k).map Po.nm) y=m at *
      have HBr:Hid (Below w.heap.size w wr∧Below wr.heap.size wr W5):=⟨HB.out,hb5⟩
      clear HS HL hf HX5
      go_wp2_with fail
      rw[←hW5]
      clear hW5
      clear k0 k1 k2 k3 k4 k5 k6 k7 k8 k9 k10 k11 k12 k13 k14 hbw
      go_region_with (go_at_call 31;refine(HG _ kqx _).mono ?_;rintro _ w6 ⟨rfl,hb6'⟩;have hb6:Below W5.heap.size W5 w6:=kqt kqx hb6';clear hb6')
      all_goals
       clear HG x0 x1 x2 x3 x4 x5 x6 x7 x8 x9 x10 x11 x12 x13 x14 xlt
       go_wp2_with fail
       go_ret2
       exact⟨HR.out _,kqt HBr.out.1 (kqt HBr.out.2 hb6)⟩
  · have i1:¬(k:Int)<(n:Int):=by omega
    have hkn:k=L.length:=by have:=HN.out;omega
    have hT:=HT.out
    have hL:=HL.out
    rw[hkn,List.take_length]at hT
    rw[hkn,List.drop_length]at hL
    have HZ:Hid (auC L=0):=by show _=_;rw[HAC.out,←hL];rfl
    obtain⟨qt,ct,hqt,hLL⟩:=hT.slice
    rw[List.length_map]at hqt
    subst hqt
    have HR:Hid (ExsOf L wr (.returned (.tuple #[.slice qt L.length ct,.nilIface]))):=by
     show ExsOf _ _ _
     unfold ExsOf
     rw[if_pos HZ.out]
     exact⟨qt,ct,rfl,hLL⟩
    clear hT hL hLL HT HL
    go_wp2_with fail
    go_ret2
    exact⟨HR.out,HB.out⟩
theorem exprsOf_any:Calls Tryz.prog 15 #[.slice pl n cl] w fun e w'=>ExsOf L w' e∧Below w.heap.size w w':=by
 by_cases h1:L.length≤12
 · exact exprsOf_small L n pl cl w hp h1
 · exact exprsOf_full L n pl cl w hp h1
theorem exprsOf_good (h:auC L=0):Calls Tryz.prog 15 #[.slice pl n cl] w fun e w'=>(∃q c,e= .returned (.tuple #[.slice q n c,.nilIface])∧LL w' q (L.map poE))∧Below w.heap.size w w':=by
 refine(exprsOf_any L n pl cl w hp).mono ?_
 rintro e w' ⟨h1,h2⟩
 unfold ExsOf at h1
 rw[if_pos h,hp.len]at h1
 exact⟨h1,h2⟩
theorem exprsOf_bad (h:auC L≠0):Calls Tryz.prog 15 #[.slice pl n cl] w fun e w'=>e= .returned (.tuple #[.slice none 0 0,.iface 70 (.int .i64 (auC L))])∧Below w.heap.size w w':=by
 refine(exprsOf_any L n pl cl w hp).mono ?_
 rintro e w' ⟨h1,h2⟩
 unfold ExsOf at h1
 rw[if_neg h]at h1
 exact⟨h1,h2⟩
end
end Go.Proofs.YtlnhaajjoplafaaGreatDoor
