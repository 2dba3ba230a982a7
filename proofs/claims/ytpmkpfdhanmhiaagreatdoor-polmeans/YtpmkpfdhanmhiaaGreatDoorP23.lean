import Derived.Test.YtpmkpfdhanmhiaaGreatDoorP13
import Derived.Test.YtpmkpfdhanmhiaaGreatDoorP22
import Derived.Shelf.Abstract
set_option linter.unusedVariables false
set_option maxHeartbeats 12000000
namespace Go.Proofs.YtpmkpfdhanmhiaaGreatDoor
open Go.RowKit
set_option linter.unusedSimpArgs false
set_option maxRecDepth 100000
theorem pisSlot_any (s:ByteArray)(w:World)(hs:s.size≤maxLen):
 Calls Tryz.prog 42 #[.string s] w fun e w'=>e= .returned (.bool (isQ s))∧w'=w:=by
 have HP:=fun w=>hasPrefix_any s w hs
 have HR:Hid (isQ s=decide (s.data.toList.head? =some 63)):=rfl
 generalize decide (s.data.toList.head? =some 63)=b at *
 have HS:∀w,Calls Tryz.prog 64 #[.string s,.string ⟨#[63]⟩] w fun e w'=>e= .returned (.bool b)∧w'=w:=by
  intro w
  go_enter Tryz.func64,Tryz.ntmps64
  go_wp2_with fail
  refine(HP _).mono ?_
  rintro e w1 ⟨rfl,rfl⟩
  go_wp2
  go_ret
  exact⟨rfl,rfl⟩
 go_enter Tryz.func42,Tryz.ntmps42
 go_wp2_with fail
 refine(HS _).mono ?_
 rintro e w1 ⟨rfl,rfl⟩
 go_wp2
 go_ret
 exact⟨by rw[HR.out];rfl,rfl⟩
theorem anyq_next {vs:List ByteArray}{k:Nat}(h:k<vs.length)(p:ByteArray→Bool):(vs.take (k+1)).any p=((vs.take k).any p || p vs[k]):=by
 rw[List.take_succ_eq_append_getElem h,List.any_append];simp
theorem anyq_hit {vs:List ByteArray}{k:Nat}(h:k<vs.length){p:ByteArray→Bool}(hp:p vs[k]=true):vs.any p=true:=
 List.any_eq_true.2 ⟨_,List.getElem_mem h,hp⟩
theorem containsSlot_any (vs:List ByteArray)(p:Option Addr)(c:Nat)(w:World)(hv:TL w p vs)(hl:vs.length≤maxLen)(hz:∀s∈vs,s.size≤maxLen):
 Calls Tryz.prog 41 #[.slice p vs.length c,.func (.func 42) #[] #[]] w fun e w'=>e= .returned (.bool (vs.any isQ))∧w'=w:=by
 unfold maxLen at hl
 have H1:Calls Tryz.prog 63 #[.slice p vs.length c,.func (.func 42) #[] #[]] w fun e w'=>(∃n:Int,e= .returned (.int .i64 n)∧decide (0≤n)=vs.any isQ)∧w'=w:=by
  have eg:∀args w,(callFunc 42 args).run Tryz.prog w= .ok (.enter 42 args) w:=enters_of Tryz.func42 (by kernel_rfl) rfl
  go_enter Tryz.func63,Tryz.ntmps63
  go_wp2
  go_loopw [8] (fun i wr=>∃k:Nat,k≤vs.length∧i= .int .i64 k∧Hid ((vs.take k).any isQ=false)∧wr=w) (fun i _=>vs.length-(intOf i).toNat)
  case atStart=>exact⟨0,Nat.zero_le _,rfl,by simp[Hid],rfl⟩
  case round=>
   obtain⟨k,hk,rfl,HA,rfl⟩:=hrel
   by_cases hlt:k<vs.length
   · have i1:(k:Int)<(vs.length:Int):=by omega
     obtain⟨b,off,rfl,hbw,hcell⟩:=hv.at hlt
     have HN:Hid (_=_):=anyq_next hlt isQ
     have HH:Hid (_→_):=anyq_hit hlt (p:=isQ)
     have H1:=pisSlot_any vs[k] wr (hz _ (List.getElem_mem hlt))
     generalize vs[k]=v at *
     cases ha:isQ v
     · rw[ha]at H1
       have HA2:Hid ((vs.take (k+1)).any isQ=false):=by show _=_;rw[HN.out,HA.out,ha];rfl
       clear HN HH HA
       go_wp2_with (go_at_fn 42;refine H1.mono ?_;rintro e w1 ⟨rfl,rfl⟩)
       go_roundw
       case rel=>exact⟨k+1,by omega,by go_num,HA2,trivial⟩
       case measure=>simp[intOf];omega
     · rw[ha]at H1
       have HA2:Hid (vs.any isQ=true):=HH.out ha
       clear HN HH HA
       go_wp2_with (go_at_fn 42;refine H1.mono ?_;rintro e w1 ⟨rfl,rfl⟩)
       go_ret
       exact⟨⟨_,rfl,by rw[HA2.out];simp⟩,rfl⟩
   · have i1:¬(k:Int)<(vs.length:Int):=by omega
     have HA2:Hid (vs.any isQ=false):=by
      have:=HA.out
      rw[List.take_of_length_le (by omega)]at this
      exact this
     go_wp2
     go_ret
     exact⟨⟨_,rfl,by rw[HA2.out];decide⟩,rfl⟩
 go_enter Tryz.func41,Tryz.ntmps41
 go_wp2_with fail
 refine H1.mono ?_
 rintro e w1 ⟨⟨n,rfl,hn⟩,rfl⟩
 go_wp2
 go_ret
 exact⟨by rw[←hn];rfl,rfl⟩
theorem pcheckCond_any (c:Cnd)(pe:Option Addr)(ce:Nat)(w:World)(h:AK w c.ex pe ce):
 Calls Tryz.prog 24 #[cndV c pe ce] w fun e w'=>e= .returned (eV (cdf c))∧Below w.heap.size w w':=by
 obtain⟨un,ex⟩:=c
 unfold cndV cdf
 simp only at h ⊢
 obtain⟨V,hV⟩:∃V,V=w.alloc (.cells #[.bool un,.slice pe ex.length ce] 44):=⟨_,rfl⟩
 have hbV:Below w.heap.size w V:=by rw[hV];exact kqx
 have hN:=(h.up hbV).nl
 by_cases hx:xfault ex=0
 · rw[if_pos hx]
   have HC:=tvars_ok ex pe ce V hN hx
   have hnl:(nms ex).length≤maxLen:=Nat.le_trans (nms_length ex) (Nat.le_trans h.le h.cm)
   have hnz:∀s∈nms ex,s.size≤maxLen:=fun s hs=>by
    obtain⟨x,hx1,_,rfl⟩:=mem_vars.1 (mem_nms.1 hs)
    exact(hN.wfs x hx1).1
   have HA:=fun W p c (hv:TL W p (nms ex))=>containsSlot_any (nms ex) p c W hv hnl hnz
   have HE:Hid (∀b,(nms ex).any isQ=b→eV (if (nms ex).any isQ=true then 1 else 0)=if b=true then .iface 57 (.int .i64 1)else .nilIface):=by
    rintro b rfl
    cases (nms ex).any isQ<;>rfl
   generalize nms ex=l at *
   cases hb:l.any isQ
   · have HE2:Hid (_=_):=HE.out _ hb
     rw[hb]at HA
     clear h hN hx hnl hnz hb HE
     go_enter Tryz.func24,Tryz.ntmps24
     go_wp2_with fail
     rw[←hV]
     clear hV
     refine HC.mono ?_
     rintro _ w1 ⟨⟨q,cc,rfl,htl,_,_⟩,hb1⟩
     have HA2:=HA w1 q cc htl
     clear htl HA HC
     go_wp2_with fail
     refine HA2.mono ?_
     rintro _ w2 ⟨rfl,rfl⟩
     go_wp2
     go_ret
     exact⟨rfl,kqt hbV hb1⟩
   · have HE2:Hid (_=_):=HE.out _ hb
     rw[hb]at HA
     clear h hN hx hnl hnz hb HE
     go_enter Tryz.func24,Tryz.ntmps24
     go_wp2_with fail
     rw[←hV]
     clear hV
     refine HC.mono ?_
     rintro _ w1 ⟨⟨q,cc,rfl,htl,_,_⟩,hb1⟩
     have HA2:=HA w1 q cc htl
     clear htl HA HC
     go_wp2_with fail
     refine HA2.mono ?_
     rintro _ w2 ⟨rfl,rfl⟩
     go_wp2
     go_ret
     exact⟨rfl,kqt hbV hb1⟩
 · rw[if_neg hx]
   have HC:=tvars_bad ex pe ce V hN (Nat.le_trans h.le h.cm) hx
   rw[eV_not hx]at HC ⊢
   generalize xfault ex=n at *
   clear h hN hx
   go_enter Tryz.func24,Tryz.ntmps24
   go_wp2_with fail
   rw[←hV]
   clear hV
   refine HC.mono ?_
   rintro _ w1 ⟨rfl,hb1⟩
   go_wp2
   go_ret
   exact⟨rfl,kqt hbV hb1⟩
theorem eB_iff (s:ByteArray):s=eB↔s.toList=[]:=by
 rw[ByteArray.toList_eq]
 exact⟨fun h=>by rw[h];rfl,fun h=>bytes_inj (by rw[h];rfl)⟩
theorem eU_iff (t i:ByteArray):(⟨t,i⟩:Ui)=eU↔t.toList=[]∧i.toList=[]:=by
 rw[←eB_iff,←eB_iff]
 unfold eU
 rw[Ui.mk.injEq]
theorem scOk_as (b:Bool)(op:Int)(ty ut ui:ByteArray):scOk b ⟨op,ty,⟨ut,ui⟩⟩=if op=0 then decide (ty.toList=[]) && (decide (ut.toList=[]) && decide (ui.toList=[]))
 else if op=1∨op=2 then decide (ty.toList=[]) && okU ⟨ut,ui⟩
 else if op=3 then okN ty && (decide (ut.toList=[]) && decide (ui.toList=[]))
 else if op=4 then okN ty && okU ⟨ut,ui⟩
 else if op=5∨op=6 then b && (decide (ty.toList=[]) && (decide (ut.toList=[]) && decide (ui.toList=[])))
 else false:=by
 unfold scOk
 simp only[eB_iff,eU_iff,Bool.decide_and]
section
variable (op:Int) (ty ut ui v:ByteArray) (w:World) (R:Bool)
theorem psMay_0 (h0:op=0)(hR:R=scOk (decide (v≠sAct)) ⟨op,ty,⟨ut,ui⟩⟩)
 (HN:∀W,Calls Tryz.prog 39 #[.string ty] W fun e w'=>e= .returned (.bool (okN ty))∧Below W.heap.size W w')
 (HU:∀W,Calls Tryz.prog 38 #[.agg #[.string ut,.string ui]] W fun e w'=>e= .returned (.bool (okU ⟨ut,ui⟩))∧Below W.heap.size W w'):
 Calls Tryz.prog 23 #[sdV ⟨op,ty,⟨ut,ui⟩⟩ v] w fun e w'=>e= .returned (.bool R)∧Below w.heap.size w w':=by
 subst h0
 have HS:Hid (R=(decide (ty.toList=[]) && (decide (ut.toList=[]) && decide (ui.toList=[])))):=by show _=_;rw[hR,scOk_as];simp
 clear hR HN HU
 unfold sdV
 simp only
 go_enter Tryz.func23,Tryz.ntmps23
 go_wp2
 all_goals
  go_ret
  refine⟨?_,kqx⟩
  rw[HS.out]
  try simp[*]
  try (rw[Bool.eq_iff_iff];simp)
theorem psMay_1 (h0:op=1)(hR:R=scOk (decide (v≠sAct)) ⟨op,ty,⟨ut,ui⟩⟩)
 (HN:∀W,Calls Tryz.prog 39 #[.string ty] W fun e w'=>e= .returned (.bool (okN ty))∧Below W.heap.size W w')
 (HU:∀W,Calls Tryz.prog 38 #[.agg #[.string ut,.string ui]] W fun e w'=>e= .returned (.bool (okU ⟨ut,ui⟩))∧Below W.heap.size W w'):
 Calls Tryz.prog 23 #[sdV ⟨op,ty,⟨ut,ui⟩⟩ v] w fun e w'=>e= .returned (.bool R)∧Below w.heap.size w w':=by
 subst h0
 have HS:Hid (R=(decide (ty.toList=[]) && okU ⟨ut,ui⟩)):=by show _=_;rw[hR,scOk_as];simp
 clear hR
 generalize okU ⟨ut,ui⟩=bu at *
 unfold sdV
 simp only
 go_enter Tryz.func23,Tryz.ntmps23
 go_wp2_with (refine(HU _).mono ?_;rintro _ w1 ⟨rfl,hb1⟩;have hbz:Below w.heap.size w w1:=kqt kqx hb1)
 all_goals
  go_ret
  refine⟨?_,(by first | exact hbz | exact kqx)⟩
  rw[HS.out]
  try simp[*]
  try (rw[Bool.eq_iff_iff];simp)
theorem psMay_2 (h0:op=2)(hR:R=scOk (decide (v≠sAct)) ⟨op,ty,⟨ut,ui⟩⟩)
 (HN:∀W,Calls Tryz.prog 39 #[.string ty] W fun e w'=>e= .returned (.bool (okN ty))∧Below W.heap.size W w')
 (HU:∀W,Calls Tryz.prog 38 #[.agg #[.string ut,.string ui]] W fun e w'=>e= .returned (.bool (okU ⟨ut,ui⟩))∧Below W.heap.size W w'):
 Calls Tryz.prog 23 #[sdV ⟨op,ty,⟨ut,ui⟩⟩ v] w fun e w'=>e= .returned (.bool R)∧Below w.heap.size w w':=by
 subst h0
 have HS:Hid (R=(decide (ty.toList=[]) && okU ⟨ut,ui⟩)):=by show _=_;rw[hR,scOk_as];simp
 clear hR
 generalize okU ⟨ut,ui⟩=bu at *
 unfold sdV
 simp only
 go_enter Tryz.func23,Tryz.ntmps23
 go_wp2_with (refine(HU _).mono ?_;rintro _ w1 ⟨rfl,hb1⟩;have hbz:Below w.heap.size w w1:=kqt kqx hb1)
 all_goals
  go_ret
  refine⟨?_,(by first | exact hbz | exact kqx)⟩
  rw[HS.out]
  try simp[*]
  try (rw[Bool.eq_iff_iff];simp)
theorem psMay_3 (h0:op=3)(hR:R=scOk (decide (v≠sAct)) ⟨op,ty,⟨ut,ui⟩⟩)
 (HN:∀W,Calls Tryz.prog 39 #[.string ty] W fun e w'=>e= .returned (.bool (okN ty))∧Below W.heap.size W w')
 (HU:∀W,Calls Tryz.prog 38 #[.agg #[.string ut,.string ui]] W fun e w'=>e= .returned (.bool (okU ⟨ut,ui⟩))∧Below W.heap.size W w'):
 Calls Tryz.prog 23 #[sdV ⟨op,ty,⟨ut,ui⟩⟩ v] w fun e w'=>e= .returned (.bool R)∧Below w.heap.size w w':=by
 subst h0
 have HS:Hid (R=(okN ty && (decide (ut.toList=[]) && decide (ui.toList=[])))):=by show _=_;rw[hR,scOk_as];simp
 clear hR
 generalize okN ty=bn at *
 have HB:Hid (∀w',Below (w.alloc (.cells #[.int .i64 3,.string ty,.string ut,.string ui,.string v] 53)).heap.size (w.alloc (.cells #[.int .i64 3,.string ty,.string ut,.string ui,.string v] 53)) w'→w'.cell? ⟨w.heap.size,2,none⟩=some (.string ut)∧w'.cell? ⟨w.heap.size,3,none⟩=some (.string ui)):=fun w' hk=>by
  have hb:=(Blk.new w (B:=w.heap.size) #[.int .i64 3,.string ty,.string ut,.string ui,.string v] 53 rfl).up hk
  exact⟨hb.cell 2,hb.cell 3⟩
 unfold sdV
 simp only
 go_enter Tryz.func23,Tryz.ntmps23
 cases bn<;>
 (go_wp2_with (refine(HN _).mono ?_;rintro _ w1 ⟨rfl,hb1⟩;obtain⟨x2,x3⟩:=HB.out w1 hb1;have hbz:Below w.heap.size w w1:=kqt kqx hb1)
  all_goals
   go_ret
   refine⟨?_,hbz⟩
   rw[HS.out]
   try simp[*])
theorem psMay_4 (h0:op=4)(hR:R=scOk (decide (v≠sAct)) ⟨op,ty,⟨ut,ui⟩⟩)
 (HN:∀W,Calls Tryz.prog 39 #[.string ty] W fun e w'=>e= .returned (.bool (okN ty))∧Below W.heap.size W w')
 (HU:∀W,Calls Tryz.prog 38 #[.agg #[.string ut,.string ui]] W fun e w'=>e= .returned (.bool (okU ⟨ut,ui⟩))∧Below W.heap.size W w'):
 Calls Tryz.prog 23 #[sdV ⟨op,ty,⟨ut,ui⟩⟩ v] w fun e w'=>e= .returned (.bool R)∧Below w.heap.size w w':=by
 subst h0
 have HS:Hid (R=(okN ty && okU ⟨ut,ui⟩)):=by show _=_;rw[hR,scOk_as];simp
 clear hR
 generalize okU ⟨ut,ui⟩=bu at *
 generalize okN ty=bn at *
 have HB:Hid (∀w',Below (w.alloc (.cells #[.int .i64 4,.string ty,.string ut,.string ui,.string v] 53)).heap.size (w.alloc (.cells #[.int .i64 4,.string ty,.string ut,.string ui,.string v] 53)) w'→w'.cell? ⟨w.heap.size,2,none⟩=some (.string ut)∧w'.cell? ⟨w.heap.size,3,none⟩=some (.string ui)):=fun w' hk=>by
  have hb:=(Blk.new w (B:=w.heap.size) #[.int .i64 4,.string ty,.string ut,.string ui,.string v] 53 rfl).up hk
  exact⟨hb.cell 2,hb.cell 3⟩
 unfold sdV
 simp only
 go_enter Tryz.func23,Tryz.ntmps23
 cases bn<;>
 (go_wp2_with (first | (refine(HN _).mono ?_;rintro _ w1 ⟨rfl,hb1⟩;obtain⟨x2,x3⟩:=HB.out w1 hb1;have hbz:Below w.heap.size w w1:=kqt kqx hb1) | (refine(HU _).mono ?_;rintro _ w2 ⟨rfl,hb2⟩;have hby:Below w.heap.size w w2:=kqt hbz hb2))
  all_goals
   go_ret
   refine⟨?_,(by first | exact hby | exact hbz)⟩
   rw[HS.out]
   try simp[*])
theorem psMay_5 (h0:op=5)(hR:R=scOk (decide (v≠sAct)) ⟨op,ty,⟨ut,ui⟩⟩)
 (HN:∀W,Calls Tryz.prog 39 #[.string ty] W fun e w'=>e= .returned (.bool (okN ty))∧Below W.heap.size W w')
 (HU:∀W,Calls Tryz.prog 38 #[.agg #[.string ut,.string ui]] W fun e w'=>e= .returned (.bool (okU ⟨ut,ui⟩))∧Below W.heap.size W w'):
 Calls Tryz.prog 23 #[sdV ⟨op,ty,⟨ut,ui⟩⟩ v] w fun e w'=>e= .returned (.bool R)∧Below w.heap.size w w':=by
 subst h0
 have hvA:(v≠sAct)↔¬v.toList=[97,99,116,105,111,110]:=by
  rw[ByteArray.toList_eq]
  exact not_congr ⟨fun h=>by rw[h];rfl,fun h=>bytes_inj (by rw[h];rfl)⟩
 have HS:Hid (R=(decide (¬v.toList=[97,99,116,105,111,110]) && (decide (ty.toList=[]) && (decide (ut.toList=[]) && decide (ui.toList=[]))))):=by show _=_;rw[hR,scOk_as];simp only[hvA];simp
 clear hR HN HU hvA
 unfold sdV
 simp only
 go_enter Tryz.func23,Tryz.ntmps23
 go_wp2
 all_goals
  go_ret
  refine⟨?_,kqx⟩
  rw[HS.out]
  try simp[*]
  try (rw[Bool.eq_iff_iff];simp)
theorem psMay_6 (h0:op=6)(hR:R=scOk (decide (v≠sAct)) ⟨op,ty,⟨ut,ui⟩⟩)
 (HN:∀W,Calls Tryz.prog 39 #[.string ty] W fun e w'=>e= .returned (.bool (okN ty))∧Below W.heap.size W w')
 (HU:∀W,Calls Tryz.prog 38 #[.agg #[.string ut,.string ui]] W fun e w'=>e= .returned (.bool (okU ⟨ut,ui⟩))∧Below W.heap.size W w'):
 Calls Tryz.prog 23 #[sdV ⟨op,ty,⟨ut,ui⟩⟩ v] w fun e w'=>e= .returned (.bool R)∧Below w.heap.size w w':=by
 subst h0
 have hvA:(v≠sAct)↔¬v.toList=[97,99,116,105,111,110]:=by
  rw[ByteArray.toList_eq]
  exact not_congr ⟨fun h=>by rw[h];rfl,fun h=>bytes_inj (by rw[h];rfl)⟩
 have HS:Hid (R=(decide (¬v.toList=[97,99,116,105,111,110]) && (decide (ty.toList=[]) && (decide (ut.toList=[]) && decide (ui.toList=[]))))):=by show _=_;rw[hR,scOk_as];simp only[hvA];simp
 clear hR HN HU hvA
 unfold sdV
 simp only
 go_enter Tryz.func23,Tryz.ntmps23
 go_wp2
 all_goals
  go_ret
  refine⟨?_,kqx⟩
  rw[HS.out]
  try simp[*]
  try (rw[Bool.eq_iff_iff];simp)
theorem psMay_7 (h0:op≠0∧op≠1∧op≠2∧op≠3∧op≠4∧op≠5∧op≠6)(hR:R=scOk (decide (v≠sAct)) ⟨op,ty,⟨ut,ui⟩⟩)
 (HN:∀W,Calls Tryz.prog 39 #[.string ty] W fun e w'=>e= .returned (.bool (okN ty))∧Below W.heap.size W w')
 (HU:∀W,Calls Tryz.prog 38 #[.agg #[.string ut,.string ui]] W fun e w'=>e= .returned (.bool (okU ⟨ut,ui⟩))∧Below W.heap.size W w'):
 Calls Tryz.prog 23 #[sdV ⟨op,ty,⟨ut,ui⟩⟩ v] w fun e w'=>e= .returned (.bool R)∧Below w.heap.size w w':=by
 obtain⟨n0,n1,n2,n3,n4,n5,n6⟩:=h0
 have b0:(op == 0)=false:=by rw[beq_eq_false_iff_ne];exact n0
 have b1:(op == 1)=false:=by rw[beq_eq_false_iff_ne];exact n1
 have b2:(op == 2)=false:=by rw[beq_eq_false_iff_ne];exact n2
 have b3:(op == 3)=false:=by rw[beq_eq_false_iff_ne];exact n3
 have b4:(op == 4)=false:=by rw[beq_eq_false_iff_ne];exact n4
 have b5:(op == 5)=false:=by rw[beq_eq_false_iff_ne];exact n5
 have b6:(op == 6)=false:=by rw[beq_eq_false_iff_ne];exact n6
 have HS:Hid (R=false):=by show _=_;rw[hR,scOk_as,if_neg n0,if_neg (by omega),if_neg n3,if_neg n4,if_neg (by omega)]
 clear hR n0 n1 n2 n3 n4 n5 n6 HN HU
 unfold sdV
 simp only
 go_enter Tryz.func23,Tryz.ntmps23
 go_wp2
 all_goals
  go_ret
  refine⟨?_,kqx⟩
  rw[HS.out]
  try simp[*]
  try (rw[Bool.eq_iff_iff];simp)
end
theorem psMay_any (s:Sco)(v:ByteArray)(w:World)(hs:ScoOk s):
 Calls Tryz.prog 23 #[sdV s v] w fun e w'=>e= .returned (.bool (scOk (decide (v≠sAct)) s))∧Below w.heap.size w w':=by
 obtain⟨op,ty,⟨ut,ui⟩⟩:=s
 have HN:=fun W=>pisName_any ty W hs.ty
 have HU:=fun W=>pisUid_any ⟨ut,ui⟩ W hs.u
 by_cases h0:op=0
 · exact psMay_0 op ty ut ui v w _ h0 rfl HN HU
 by_cases h1:op=1
 · exact psMay_1 op ty ut ui v w _ h1 rfl HN HU
 by_cases h2:op=2
 · exact psMay_2 op ty ut ui v w _ h2 rfl HN HU
 by_cases h3:op=3
 · exact psMay_3 op ty ut ui v w _ h3 rfl HN HU
 by_cases h4:op=4
 · exact psMay_4 op ty ut ui v w _ h4 rfl HN HU
 by_cases h5:op=5
 · exact psMay_5 op ty ut ui v w _ h5 rfl HN HU
 by_cases h6:op=6
 · exact psMay_6 op ty ut ui v w _ h6 rfl HN HU
 exact psMay_7 op ty ut ui v w _ ⟨h0,h1,h2,h3,h4,h5,h6⟩ rfl HN HU
theorem csf_next {cs:List Cnd}{k:Nat}(h:k<cs.length):csf (cs.drop k)=if cdf cs[k]=0 then csf (cs.drop (k+1))else cdf cs[k]:=by
 rw[List.drop_eq_getElem_cons h];rfl
def sdOk (p:Po)(k:Nat):Bool:=if k=0 then scOk true p.who else if k=1 then scOk false p.act else scOk true p.what
def sdS (p:Po)(k:Nat):Sco:=if k=0 then p.who else if k=1 then p.act else p.what
def sdN (k:Nat):ByteArray:=if k=0 then sPrin else if k=1 then sAct else sRes
theorem sides_at {w:World}{b:Nat}{p:Po}(h:Blk w b (sidesC p) 53){k:Nat}(hk:k<3):
 w.cell? ⟨b,k*5,none⟩=some (.int .i64 (sdS p k).op)∧w.cell? ⟨b,k*5+1,none⟩=some (.string (sdS p k).ty)∧w.cell? ⟨b,k*5+2,none⟩=some (.string (sdS p k).u.t)∧w.cell? ⟨b,k*5+3,none⟩=some (.string (sdS p k).u.i)∧w.cell? ⟨b,k*5+4,none⟩=some (.string (sdN k)):=by
 have hc:k=0∨k=1∨k=2:=by omega
 rcases hc with rfl | rfl | rfl
 all_goals exact⟨h.cell _,h.cell _,h.cell _,h.cell _,h.cell _⟩
theorem sd_mayBe {p:Po}(h0:ScoOk p.who)(h1:ScoOk p.act)(h2:ScoOk p.what){k:Nat}(hk:k<3)(w:World):
 Calls Tryz.prog 23 #[sdV (sdS p k) (sdN k)] w fun e w'=>e= .returned (.bool (sdOk p k))∧Below w.heap.size w w':=by
 have hc:k=0∨k=1∨k=2:=by omega
 rcases hc with rfl | rfl | rfl
 · exact psMay_any p.who sPrin w h0
 · exact psMay_any p.act sAct w h1
 · exact psMay_any p.what sRes w h2
theorem pof_name {p:Po}(h:nfault p.nm.data.toList≠0):pof p=nfault p.nm.data.toList:=by unfold pof;rw[if_neg h]
theorem pof_side {p:Po}(h:nfault p.nm.data.toList=0){k:Nat}(hk:k<3)(h2:sdOk p k=false):pof p=1:=by
 unfold pof
 rw[if_pos h]
 have hc:k=0∨k=1∨k=2:=by omega
 rcases hc with rfl | rfl | rfl
 · have:scOk true p.who=false:=h2
   rw[if_neg (by simp[this])]
 · have:scOk false p.act=false:=h2
   rw[if_neg (by simp[this])]
 · have:scOk true p.what=false:=h2
   rw[if_neg (by simp[this])]
theorem pof_rest {p:Po}(h:nfault p.nm.data.toList=0)(h2:∀k,k<3→sdOk p k=true):pof p=if 4<p.cs.length then 4 else csf p.cs:=by
 unfold pof
 have a0:scOk true p.who=true:=h2 0 (by omega)
 have a1:scOk false p.act=true:=h2 1 (by omega)
 have a2:scOk true p.what=true:=h2 2 (by omega)
 rw[if_pos h,if_pos (by simp[a0,a1,a2])]
def poC (p:Po)(pc:Option Addr)(cc:Nat):Array Value:= #[.string p.nm,.bool p.fb,.int .i64 p.who.op,.string p.who.ty,.string p.who.u.t,.string p.who.u.i,.int .i64 p.act.op,.string p.act.ty,.string p.act.u.t,.string p.act.u.i,.int .i64 p.what.op,.string p.what.ty,.string p.what.u.t,.string p.what.u.i,.slice pc p.cs.length cc]
theorem po_cells {w:World}{B:Nat}{p:Po}{pc:Option Addr}{cc:Nat}{T:TypeId}(h:Blk w B (poC p pc cc) T):
 w.cell? ⟨B,0,none⟩=some (.string p.nm)∧w.cell? ⟨B,1,none⟩=some (.bool p.fb)∧w.cell? ⟨B,2,none⟩=some (.int .i64 p.who.op)∧w.cell? ⟨B,3,none⟩=some (.string p.who.ty)∧w.cell? ⟨B,4,none⟩=some (.string p.who.u.t)∧w.cell? ⟨B,5,none⟩=some (.string p.who.u.i)∧w.cell? ⟨B,6,none⟩=some (.int .i64 p.act.op)∧w.cell? ⟨B,7,none⟩=some (.string p.act.ty)∧w.cell? ⟨B,8,none⟩=some (.string p.act.u.t)∧w.cell? ⟨B,9,none⟩=some (.string p.act.u.i)∧w.cell? ⟨B,10,none⟩=some (.int .i64 p.what.op)∧w.cell? ⟨B,11,none⟩=some (.string p.what.ty)∧w.cell? ⟨B,12,none⟩=some (.string p.what.u.t)∧w.cell? ⟨B,13,none⟩=some (.string p.what.u.i)∧w.cell? ⟨B,14,none⟩=some (.slice pc p.cs.length cc):=
 ⟨h.cell 0,h.cell 1,h.cell 2,h.cell 3,h.cell 4,h.cell 5,h.cell 6,h.cell 7,h.cell 8,h.cell 9,h.cell 10,h.cell 11,h.cell 12,h.cell 13,h.cell 14⟩
theorem pcheck_any (p:Po)(pc:Option Addr)(cc:Nat)(w:World)(h:PoA w p pc cc):
 Calls Tryz.prog 11 #[poV p pc cc] w fun e w'=>e= .returned (eV (pof p))∧Below w.heap.size w w':=by
 obtain⟨V,hV⟩:∃V,V=w.alloc (.cells (poC p pc cc) 29):=⟨_,rfl⟩
 have hbV:Below w.heap.size w V:=by rw[hV];exact kqx
 have HBk:Hid (∀w',Below V.heap.size V w'→Blk w' w.heap.size (poC p pc cc) 29):=fun w' hk=>by
  have hb:Blk V w.heap.size (poC p pc cc) 29:=by rw[hV];exact Blk.new w _ _ rfl
  exact hb.up hk
 have HC:=check_any p.nm V h.nm
 have HPA:Hid (PoA V p pc cc):=h.up hbV
 clear h
 by_cases hn:nfault p.nm.data.toList=0
 · rw[eV_nil hn]at HC
   have HS:=fun W=>sidesOf_any p pc cc W
   have HSM:=fun k (hk:k<3) W=>sd_mayBe HPA.out.who HPA.out.act HPA.out.what hk W
   unfold poC at hV
   unfold poV at *
   unfold sdV at HSM
   have HN:Hid (nfault p.nm.data.toList=0):=hn
   have HX:=po_cells (HBk.out V (Below.refl _ _))
   obtain⟨x0,x1,x2,x3,x4,x5,x6,x7,x8,x9,x10,x11,x12,x13,x14⟩:=HX
   clear hn
   go_enter Tryz.func11,Tryz.ntmps11
   go_wp2_with fail
   rw[←hV]
   refine HC.mono ?_
   rintro _ w1 ⟨rfl,rfl⟩
   clear hV HC
   go_wp2_with fail
   refine(HS _).mono ?_
   rintro _ w2 ⟨⟨b,rfl,hsd⟩,hb2⟩
   have HSD:Hid (∀w',Below w2.heap.size w2 w'→Blk w' b (sidesC p) 53):=fun w' hk=>hsd.up hk
   clear hsd HS x0 x1 x2 x3 x4 x5 x6 x7 x8 x9 x10 x11 x12 x13 x14
   go_wp2
   go_loopw [18] (fun i wr=>∃k:Nat,k≤3∧i= .int .i64 k∧Hid (∀j,j<k→sdOk p j=true)∧Below w2.heap.size w2 wr) (fun i _=>3-(intOf i).toNat)
   case atStart=>exact⟨0,by omega,rfl,fun j hj=>by omega,Below.refl _ _⟩
   case round=>
    obtain⟨k,hk,rfl,HA,hb⟩:=hrel
    by_cases hlt:k<3
    · have i1:(k:Int)<3:=by omega
      obtain⟨y0,y1,y2,y3,y4⟩:=sides_at (HSD.out wr hb) hlt
      have hbl:b<wr.heap.size:=(HSD.out wr hb).lt
      have HM:=HSM k hlt
      have HSD2:Hid (sdOk p k=false→pof p=1):=fun e=>pof_side HN.out hlt e
      have HNX:Hid (sdOk p k=true→∀j,j<k+1→sdOk p j=true):=fun e j hj=>by
       by_cases hjk:j<k
       · exact HA.out j hjk
       · have:j=k:=by omega
         rw[this];exact e
      generalize sdS p k=s at *
      generalize sdN k=nm at *
      cases hok:sdOk p k
      · rw[hok]at HM
        have HP:Hid (pof p=1):=HSD2.out hok
        clear HSD2 HNX hok HA
        go_wp2_with fail
        refine(HM _).mono ?_
        rintro _ w3 ⟨rfl,hb3⟩
        go_wp2
        go_ret
        exact⟨by rw[HP.out];rfl,kqt hbV (kqt hb2 (kqt hb (kqt kqx hb3)))⟩
      · rw[hok]at HM
        have HP:Hid (∀j,j<k+1→sdOk p j=true):=HNX.out hok
        clear HSD2 HNX hok HA
        go_wp2_with fail
        refine(HM _).mono ?_
        rintro _ w3 ⟨rfl,hb3⟩
        go_wp2
        go_roundw
        case rel=>exact⟨k+1,by omega,by go_num,HP,kqt hb (kqt kqx hb3)⟩
        case measure=>simp[intOf];omega
    · have i1:¬(k:Int)<3:=by omega
      have HP:Hid (pof p=if 4<p.cs.length then 4 else csf p.cs):=pof_rest HN.out (fun j hj=>HA.out j (by omega))
      have hb02:=kqt hb2 hb
      obtain⟨_,_,_,_,_,_,_,_,_,_,_,_,_,_,x14⟩:=po_cells (HBk.out wr hb02)
      have HPR:Hid (PoA wr p pc cc):=HPA.out.up hb02
      have hb03:Below w.heap.size w wr:=kqt hbV hb02
      have HBr:Hid (∀w',Below wr.heap.size wr w'→w'.cell? ⟨w.heap.size,14,none⟩=some (.slice pc p.cs.length cc)):=fun w' hk=>by
       obtain⟨_,_,_,_,_,_,_,_,_,_,_,_,_,_,x14⟩:=po_cells (HBk.out w' (kqt hb02 hk))
       exact x14
      clear HPA HSM HSD HBk HA hb2 hb hb02 hbV
      by_cases h4:4<p.cs.length
      · have h4':(4:Int)<(p.cs.length:Int):=by omega
        have HP2:Hid (pof p=4):=by show _=_;rw[HP.out,if_pos h4]
        clear h4
        go_wp2
        go_ret
        exact⟨by rw[HP2.out];rfl,hb03⟩
      · have h4':¬(4:Int)<(p.cs.length:Int):=by omega
        have HP2:Hid (pof p=csf p.cs):=by show _=_;rw[HP.out,if_neg h4]
        have h44:p.cs.length≤4:=by omega
        clear h4
        rename World=>wO
        go_wp2
        go_loopw [35] (fun i w4=>∃k:Nat,k≤p.cs.length∧i= .int .i64 k∧Hid (csf p.cs=csf (p.cs.drop k))∧Below wO.heap.size wO w4) (fun i _=>p.cs.length-(intOf i).toNat)
        case atStart=>exact⟨0,Nat.zero_le _,rfl,rfl,Below.refl _ _⟩
        case round=>
         obtain⟨k,hk2,rfl,HA,hb⟩:=hrel
         have z14:=HBr.out wr hb
         by_cases hlt:k<p.cs.length
         · have i2:(k:Int)<(p.cs.length:Int):=by omega
           obtain⟨bb,off,pe,ce,hpc,hbb,hak,z0,z1⟩:=(HPR.out.cl.up hb).at hlt
           subst hpc
           have HNX:Hid (csf (p.cs.drop k)=if cdf p.cs[k]=0 then csf (p.cs.drop (k+1))else cdf p.cs[k]):=csf_next hlt
           have HM:=fun W (hW:Below wr.heap.size wr W)=>pcheckCond_any p.cs[k] pe ce W (hak.up hW)
           unfold cndV at HM
           generalize p.cs[k]=c at *
           clear hak
           by_cases hc:cdf c=0
           · simp only[eV_nil hc]at HM
             have HA2:Hid (csf p.cs=csf (p.cs.drop (k+1))):=by show _=_;rw[HA.out,HNX.out,if_pos hc]
             clear hc HNX HA
             go_wp2_with fail
             refine(HM _ kqx).mono ?_
             rintro _ w5 ⟨rfl,hb5⟩
             go_wp2
             go_roundw
             case rel=>exact⟨k+1,by omega,by go_num,HA2,kqt hb (kqt kqx hb5)⟩
             case measure=>simp[intOf];omega
           · simp only[eV_not hc]at HM
             have HP3:Hid (eV (pof p)= .iface 57 (.int .i64 (cdf c))):=by show _=_;rw[HP2.out,HA.out,HNX.out,if_neg hc,eV_not hc]
             generalize cdf c=n at *
             clear hc HNX HA
             go_wp2_with fail
             refine(HM _ kqx).mono ?_
             rintro _ w5 ⟨rfl,hb5⟩
             go_wp2
             go_ret
             exact⟨by rw[HP3.out];rfl,kqt hb03 (kqt hb (kqt kqx hb5))⟩
         · have i2:¬(k:Int)<(p.cs.length:Int):=by omega
           have HP3:Hid (pof p=0):=by show _=_;rw[HP2.out,HA.out,List.drop_eq_nil_of_le (by omega)];rfl
           go_wp2
           go_ret
           exact⟨by rw[HP3.out];rfl,kqt hb03 hb⟩
 · rw[eV_not hn]at HC
   have HN:Hid (pof p=nfault p.nm.data.toList):=pof_name hn
   generalize nfault p.nm.data.toList=n at *
   unfold poC at hV
   unfold poV
   have HX:=po_cells (HBk.out V (Below.refl _ _))
   obtain⟨x0,x1,x2,x3,x4,x5,x6,x7,x8,x9,x10,x11,x12,x13,x14⟩:=HX
   have HN2:Hid (eV (pof p)= .iface 57 (.int .i64 n)):=by show _=_;rw[HN.out,eV_not hn]
   clear hn HPA HBk
   go_enter Tryz.func11,Tryz.ntmps11
   go_wp2_with fail
   rw[←hV]
   refine HC.mono ?_
   rintro _ w1 ⟨rfl,rfl⟩
   clear hV
   go_wp2
   go_ret
   exact⟨by rw[HN2.out];rfl,hbV⟩
end Go.Proofs.YtpmkpfdhanmhiaaGreatDoor
