import Derived.Test.YthhijecpookfhaaGreatDoorF16
import Derived.Test.YthhijecpookfhaaGreatDoorF22
import Derived.Shelf.Abstract
import Derived.Test.YthhijecpookfhaaGreatDoorF15
import Derived.Test.YthhijecpookfhaaGreatDoorF12
import Derived.Test.YthhijecpookfhaaGreatDoorF14
set_option linter.unusedVariables false
set_option maxHeartbeats 12000000
namespace Go.Proofs.YthhijecpookfhaaGreatDoor
open Go.RowKit
set_option linter.unusedSimpArgs false
set_option maxRecDepth 100000
theorem pisSlot_any (s:ByteArray)(w:World)(hs:s.size≤maxLen):
 Calls Tryz.prog 43 #[.string s] w fun e w'=>e= .returned (.bool (isQ s))∧w'=w:=by
 have HP:=fun w=>hasPrefix_any s w hs
 have HR:Hid (isQ s=decide (s.data.toList.head? =some 63)):=rfl
 generalize decide (s.data.toList.head? =some 63)=b at *
 have HS:∀w,Calls Tryz.prog 58 #[.string s,.string ⟨#[63]⟩] w fun e w'=>e= .returned (.bool b)∧w'=w:=by
  intro w
  go_enter Tryz.func58,Tryz.ntmps58
  go_wp2_with fail
  refine(HP _).mono ?_
  rintro e w1 ⟨rfl,rfl⟩
  go_wp2
  go_ret
  exact⟨rfl,rfl⟩
 go_enter Tryz.func43,Tryz.ntmps43
 go_wp2_with fail
 refine(HS _).mono ?_
 rintro e w1 ⟨rfl,rfl⟩
 go_wp2
 go_ret
 exact⟨by rw[HR.out];rfl,rfl⟩
theorem anyq_next {vs:List ByteArray}{k:Nat}(h:k<vs.length)(p:ByteArray→Bool):(vs.take (k+1)).any p=((vs.take k).any p || p vs[k]):=by
 rw[List.take_succ_eq_append_getElem h,List.any_append];simp
theorem anyq_hit {vs:List ByteArray}{k:Nat}(h:k<vs.length){p:ByteArray→Bool}(hp:p vs[k]=true):vs.any p=true:=
 List.any_eq_true.2 ⟨_,List.getElem_mem h,hp⟩
theorem containsSlot_any (vs:List ByteArray)(p:Option Addr)(c:Nat)(w:World)(hv:TL w p vs)(hl:vs.length≤maxLen)(hz:∀s∈vs,s.size≤maxLen):
 Calls Tryz.prog 42 #[.slice p vs.length c,.func (.func 43) #[] #[]] w fun e w'=>e= .returned (.bool (vs.any isQ))∧w'=w:=by
 unfold maxLen at hl
 have H1:Calls Tryz.prog 57 #[.slice p vs.length c,.func (.func 43) #[] #[]] w fun e w'=>(∃n:Int,e= .returned (.int .i64 n)∧decide (0≤n)=vs.any isQ)∧w'=w:=by
  have eg:∀args w,(callFunc 43 args).run Tryz.prog w= .ok (.enter 43 args) w:=enters_of Tryz.func43 (by kernel_rfl) rfl
  go_enter Tryz.func57,Tryz.ntmps57
  go_wp2
  go_loopw [8] (fun i wr=>∃k:Nat,k≤vs.length∧i= .int .i64 k∧Hid ((vs.take k).any isQ=false)∧wr=w) (fun i _=>vs.length-(intOf i).toNat)
  case atStart=>exact⟨0,Nat.zero_le _,rfl,by simp[Hid],rfl⟩
  case round=>
   obtain⟨k,hk,rfl,HA,rfl⟩:=hrel
   by_cases hlt:k<vs.length
   · have i1:(k:Int)<(vs.length:Int):=by omega
     obtain⟨b,off,rfl,hbw,hcell⟩:=hv.at hlt
     have HN:Hid (_=_):=anyq_next hlt isQ
     have HH:Hid (_→_):=anyq_hit hlt (p:=isQ)
     have H1:=pisSlot_any vs[k] wr (hz _ (List.getElem_mem hlt))
     generalize vs[k]=v at *
     cases ha:isQ v
     · rw[ha]at H1
       have HA2:Hid ((vs.take (k+1)).any isQ=false):=by show _=_;rw[HN.out,HA.out,ha];rfl
       clear HN HH HA
       go_wp2_with (go_at_fn 43;refine H1.mono ?_;rintro e w1 ⟨rfl,rfl⟩)
       go_roundw
       case rel=>exact⟨k+1,by omega,by go_num,HA2,trivial⟩
       case measure=>simp[intOf];omega
     · rw[ha]at H1
       have HA2:Hid (vs.any isQ=true):=HH.out ha
       clear HN HH HA
       go_wp2_with (go_at_fn 43;refine H1.mono ?_;rintro e w1 ⟨rfl,rfl⟩)
       go_ret
       exact⟨⟨_,rfl,by rw[HA2.out];simp⟩,rfl⟩
   · have i1:¬(k:Int)<(vs.length:Int):=by omega
     have HA2:Hid (vs.any isQ=false):=by
      have:=HA.out
      rw[List.take_of_length_le (by omega)]at this
      exact this
     go_wp2
     go_ret
     exact⟨⟨_,rfl,by rw[HA2.out];decide⟩,rfl⟩
 go_enter Tryz.func42,Tryz.ntmps42
 go_wp2_with fail
 refine H1.mono ?_
 rintro e w1 ⟨⟨n,rfl,hn⟩,rfl⟩
 go_wp2
 go_ret
 exact⟨by rw[←hn];rfl,rfl⟩
theorem pcheckCond_any (c:Cnd)(pe:Option Addr)(ce:Nat)(w:World)(h:AK w c.ex pe ce):
 Calls Tryz.prog 28 #[cndV c pe ce] w fun e w'=>e= .returned (eV (cdf c))∧Below w.heap.size w w':=by
 obtain⟨un,ex⟩:=c
 unfold cndV cdf
 simp only at h ⊢
 obtain⟨V,hV⟩:∃V,V=w.alloc (.cells #[.bool un,.slice pe ex.length ce] 52):=⟨_,rfl⟩
 have hbV:Below w.heap.size w V:=by rw[hV];exact kqx
 have hN:=(h.up hbV).nl
 by_cases hx:xfault ex=0
 · rw[if_pos hx]
   have HC:=tvars_ok ex pe ce V hN hx
   have hnl:(nms ex).length≤maxLen:=Nat.le_trans (nms_length ex) (Nat.le_trans h.le h.cm)
   have hnz:∀s∈nms ex,s.size≤maxLen:=fun s hs=>by
    obtain⟨x,hx1,_,rfl⟩:=mem_vars.1 (mem_nms.1 hs)
    exact(hN.wfs x hx1).1
   have HA:=fun W p c (hv:TL W p (nms ex))=>containsSlot_any (nms ex) p c W hv hnl hnz
   have HE:Hid (∀b,(nms ex).any isQ=b→eV (if (nms ex).any isQ=true then 1 else 0)=if b=true then .iface 35 (.int .i64 1)else .nilIface):=by
    rintro b rfl
    cases (nms ex).any isQ<;>rfl
   generalize nms ex=l at *
   cases hb:l.any isQ
   · have HE2:Hid (_=_):=HE.out _ hb
     rw[hb]at HA
     clear h hN hx hnl hnz hb HE
     go_enter Tryz.func28,Tryz.ntmps28
     go_wp2_with fail
     rw[←hV]
     clear hV
     refine HC.mono ?_
     rintro _ w1 ⟨⟨q,cc,rfl,htl,_,_⟩,hb1⟩
     have HA2:=HA w1 q cc htl
     clear htl HA HC
     go_wp2_with fail
     refine HA2.mono ?_
     rintro _ w2 ⟨rfl,rfl⟩
     go_wp2
     go_ret
     exact⟨rfl,kqt hbV hb1⟩
   · have HE2:Hid (_=_):=HE.out _ hb
     rw[hb]at HA
     clear h hN hx hnl hnz hb HE
     go_enter Tryz.func28,Tryz.ntmps28
     go_wp2_with fail
     rw[←hV]
     clear hV
     refine HC.mono ?_
     rintro _ w1 ⟨⟨q,cc,rfl,htl,_,_⟩,hb1⟩
     have HA2:=HA w1 q cc htl
     clear htl HA HC
     go_wp2_with fail
     refine HA2.mono ?_
     rintro _ w2 ⟨rfl,rfl⟩
     go_wp2
     go_ret
     exact⟨rfl,kqt hbV hb1⟩
 · rw[if_neg hx]
   have HC:=tvars_bad ex pe ce V hN (Nat.le_trans h.le h.cm) hx
   rw[eV_not hx]at HC ⊢
   generalize xfault ex=n at *
   clear h hN hx
   go_enter Tryz.func28,Tryz.ntmps28
   go_wp2_with fail
   rw[←hV]
   clear hV
   refine HC.mono ?_
   rintro _ w1 ⟨rfl,hb1⟩
   go_wp2
   go_ret
   exact⟨rfl,kqt hbV hb1⟩
theorem eB_iff (s:ByteArray):s=eB↔s.toList=[]:=by
 rw[ByteArray.toList_eq]
 exact⟨fun h=>by rw[h];rfl,fun h=>bytes_inj (by rw[h];rfl)⟩
theorem eU_iff (t i:ByteArray):(⟨t,i⟩:Ui)=eU↔t.toList=[]∧i.toList=[]:=by
 rw[←eB_iff,←eB_iff]
 unfold eU
 rw[Ui.mk.injEq]
theorem scOk_as (b:Bool)(op:Int)(ty ut ui:ByteArray):scOk b ⟨op,ty,⟨ut,ui⟩⟩=if op=0 then decide (ty.toList=[]) && (decide (ut.toList=[]) && decide (ui.toList=[]))
 else if op=1∨op=2 then decide (ty.toList=[]) && okU ⟨ut,ui⟩
 else if op=3 then okN ty && (decide (ut.toList=[]) && decide (ui.toList=[]))
 else if op=4 then okN ty && okU ⟨ut,ui⟩
 else if op=5∨op=6 then b && (decide (ty.toList=[]) && (decide (ut.toList=[]) && decide (ui.toList=[])))
 else false:=by
 unfold scOk
 simp only[eB_iff,eU_iff,Bool.decide_and]
section
variable (op:Int) (ty ut ui v:ByteArray) (w:World) (R:Bool)
theorem psMay_0 (h0:op=0)(hR:R=scOk (decide (v≠sAct)) ⟨op,ty,⟨ut,ui⟩⟩)
 (HN:∀W,Calls Tryz.prog 40 #[.string ty] W fun e w'=>e= .returned (.bool (okN ty))∧Below W.heap.size W w')
 (HU:∀W,Calls Tryz.prog 39 #[.agg #[.string ut,.string ui]] W fun e w'=>e= .returned (.bool (okU ⟨ut,ui⟩))∧Below W.heap.size W w'):
 Calls Tryz.prog 27 #[sdV ⟨op,ty,⟨ut,ui⟩⟩ v] w fun e w'=>e= .returned (.bool R)∧Below w.heap.size w w':=by
 subst h0
 have HS:Hid (R=(decide (ty.toList=[]) && (decide (ut.toList=[]) && decide (ui.toList=[])))):=by show _=_;rw[hR,scOk_as];simp
 clear hR HN HU
 unfold sdV
 simp only
 go_enter Tryz.func27,Tryz.ntmps27
 go_wp2
 all_goals
  go_ret
  refine⟨?_,kqx⟩
  rw[HS.out]
  try simp[*]
  try (rw[Bool.eq_iff_iff];simp)
theorem psMay_1 (h0:op=1)(hR:R=scOk (decide (v≠sAct)) ⟨op,ty,⟨ut,ui⟩⟩)
 (HN:∀W,Calls Tryz.prog 40 #[.string ty] W fun e w'=>e= .returned (.bool (okN ty))∧Below W.heap.size W w')
 (HU:∀W,Calls Tryz.prog 39 #[.agg #[.string ut,.string ui]] W fun e w'=>e= .returned (.bool (okU ⟨ut,ui⟩))∧Below W.heap.size W w'):
 Calls Tryz.prog 27 #[sdV ⟨op,ty,⟨ut,ui⟩⟩ v] w fun e w'=>e= .returned (.bool R)∧Below w.heap.size w w':=by
 subst h0
 have HS:Hid (R=(decide (ty.toList=[]) && okU ⟨ut,ui⟩)):=by show _=_;rw[hR,scOk_as];simp
 clear hR
 generalize okU ⟨ut,ui⟩=bu at *
 unfold sdV
 simp only
 go_enter Tryz.func27,Tryz.ntmps27
 go_wp2_with (refine(HU _).mono ?_;rintro _ w1 ⟨rfl,hb1⟩;have hbz:Below w.heap.size w w1:=kqt kqx hb1)
 all_goals
  go_ret
  refine⟨?_,(by first | exact hbz | exact kqx)⟩
  rw[HS.out]
  try simp[*]
  try (rw[Bool.eq_iff_iff];simp)
theorem psMay_2 (h0:op=2)(hR:R=scOk (decide (v≠sAct)) ⟨op,ty,⟨ut,ui⟩⟩)
 (HN:∀W,Calls Tryz.prog 40 #[.string ty] W fun e w'=>e= .returned (.bool (okN ty))∧Below W.heap.size W w')
 (HU:∀W,Calls Tryz.prog 39 #[.agg #[.string ut,.string ui]] W fun e w'=>e= .returned (.bool (okU ⟨ut,ui⟩))∧Below W.heap.size W w'):
 Calls Tryz.prog 27 #[sdV ⟨op,ty,⟨ut,ui⟩⟩ v] w fun e w'=>e= .returned (.bool R)∧Below w.heap.size w w':=by
 subst h0
 have HS:Hid (R=(decide (ty.toList=[]) && okU ⟨ut,ui⟩)):=by show _=_;rw[hR,scOk_as];simp
 clear hR
 generalize okU ⟨ut,ui⟩=bu at *
 unfold sdV
 simp only
 go_enter Tryz.func27,Tryz.ntmps27
 go_wp2_with (refine(HU _).mono ?_;rintro _ w1 ⟨rfl,hb1⟩;have hbz:Below w.heap.size w w1:=kqt kqx hb1)
 all_goals
  go_ret
  refine⟨?_,(by first | exact hbz | exact kqx)⟩
  rw[HS.out]
  try simp[*]
  try (rw[Bool.eq_iff_iff];simp)
theorem psMay_3 (h0:op=3)(hR:R=scOk (decide (v≠sAct)) ⟨op,ty,⟨ut,ui⟩⟩)
 (HN:∀W,Calls Tryz.prog 40 #[.string ty] W fun e w'=>e= .returned (.bool (okN ty))∧Below W.heap.size W w')
 (HU:∀W,Calls Tryz.prog 39 #[.agg #[.string ut,.string ui]] W fun e w'=>e= .returned (.bool (okU ⟨ut,ui⟩))∧Below W.heap.size W w'):
 Calls Tryz.prog 27 #[sdV ⟨op,ty,⟨ut,ui⟩⟩ v] w fun e w'=>e= .returned (.bool R)∧Below w.heap.size w w':=by
 subst h0
 have HS:Hid (R=(okN ty && (decide (ut.toList=[]) && decide (ui.toList=[])))):=by show _=_;rw[hR,scOk_as];simp
 clear hR
 generalize okN ty=bn at *
 have HB:Hid (∀w',Below (w.alloc (.cells #[.int .i64 3,.string ty,.string ut,.string ui,.string v] 65)).heap.size (w.alloc (.cells #[.int .i64 3,.string ty,.string ut,.string ui,.string v] 65)) w'→w'.cell? ⟨w.heap.size,2,none⟩=some (.string ut)∧w'.cell? ⟨w.heap.size,3,none⟩=some (.string ui)):=fun w' hk=>by
  have hb:=(Blk.new w (B:=w.heap.size) #[.int .i64 3,.string ty,.string ut,.string ui,.string v] 65 rfl).up hk
  exact⟨hb.cell 2,hb.cell 3⟩
 unfold sdV
 simp only
 go_enter Tryz.func27,Tryz.ntmps27
 cases bn<;>
 (go_wp2_with (refine(HN _).mono ?_;rintro _ w1 ⟨rfl,hb1⟩;obtain⟨x2,x3⟩:=HB.out w1 hb1;have hbz:Below w.heap.size w w1:=kqt kqx hb1)
  all_goals
   go_ret
   refine⟨?_,hbz⟩
   rw[HS.out]
   try simp[*])
theorem psMay_4 (h0:op=4)(hR:R=scOk (decide (v≠sAct)) ⟨op,ty,⟨ut,ui⟩⟩)
 (HN:∀W,Calls Tryz.prog 40 #[.string ty] W fun e w'=>e= .returned (.bool (okN ty))∧Below W.heap.size W w')
 (HU:∀W,Calls Tryz.prog 39 #[.agg #[.string ut,.string ui]] W fun e w'=>e= .returned (.bool (okU ⟨ut,ui⟩))∧Below W.heap.size W w'):
 Calls Tryz.prog 27 #[sdV ⟨op,ty,⟨ut,ui⟩⟩ v] w fun e w'=>e= .returned (.bool R)∧Below w.heap.size w w':=by
 subst h0
 have HS:Hid (R=(okN ty && okU ⟨ut,ui⟩)):=by show _=_;rw[hR,scOk_as];simp
 clear hR
 generalize okU ⟨ut,ui⟩=bu at *
 generalize okN ty=bn at *
 have HB:Hid (∀w',Below (w.alloc (.cells #[.int .i64 4,.string ty,.string ut,.string ui,.string v] 65)).heap.size (w.alloc (.cells #[.int .i64 4,.string ty,.string ut,.string ui,.string v] 65)) w'→w'.cell? ⟨w.heap.size,2,none⟩=some (.string ut)∧w'.cell? ⟨w.heap.size,3,none⟩=some (.string ui)):=fun w' hk=>by
  have hb:=(Blk.new w (B:=w.heap.size) #[.int .i64 4,.string ty,.string ut,.string ui,.string v] 65 rfl).up hk
  exact⟨hb.cell 2,hb.cell 3⟩
 unfold sdV
 simp only
 go_enter Tryz.func27,Tryz.ntmps27
 cases bn<;>
 (go_wp2_with (first | (refine(HN _).mono ?_;rintro _ w1 ⟨rfl,hb1⟩;obtain⟨x2,x3⟩:=HB.out w1 hb1;have hbz:Below w.heap.size w w1:=kqt kqx hb1) | (refine(HU _).mono ?_;rintro _ w2 ⟨rfl,hb2⟩;have hby:Below w.heap.size w w2:=kqt hbz hb2))
  all_goals
   go_ret
   refine⟨?_,(by first | exact hby | exact hbz)⟩
   rw[HS.out]
   try simp[*])
theorem psMay_5 (h0:op=5)(hR:R=scOk (decide (v≠sAct)) ⟨op,ty,⟨ut,ui⟩⟩)
 (HN:∀W,Calls Tryz.prog 40 #[.string ty] W fun e w'=>e= .returned (.bool (okN ty))∧Below W.heap.size W w')
 (HU:∀W,Calls Tryz.prog 39 #[.agg #[.string ut,.string ui]] W fun e w'=>e= .returned (.bool (okU ⟨ut,ui⟩))∧Below W.heap.size W w'):
 Calls Tryz.prog 27 #[sdV ⟨op,ty,⟨ut,ui⟩⟩ v] w fun e w'=>e= .returned (.bool R)∧Below w.heap.size w w':=by
 subst h0
 have hvA:(v≠sAct)↔¬v.toList=[97,99,116,105,111,110]:=by
  rw[ByteArray.toList_eq]
  exact not_congr ⟨fun h=>by rw[h];rfl,fun h=>bytes_inj (by rw[h];rfl)⟩
 have HS:Hid (R=(decide (¬v.toList=[97,99,116,105,111,110]) && (decide (ty.toList=[]) && (decide (ut.toList=[]) && decide (ui.toList=[]))))):=by show _=_;rw[hR,scOk_as];simp only[hvA];simp
 clear hR HN HU hvA
 unfold sdV
 simp only
 go_enter Tryz.func27,Tryz.ntmps27
 go_wp2
 all_goals
  go_ret
  refine⟨?_,kqx⟩
  rw[HS.out]
  try simp[*]
  try (rw[Bool.eq_iff_iff];simp)
theorem psMay_6 (h0:op=6)(hR:R=scOk (decide (v≠sAct)) ⟨op,ty,⟨ut,ui⟩⟩)
 (HN:∀W,Calls Tryz.prog 40 #[.string ty] W fun e w'=>e= .returned (.bool (okN ty))∧Below W.heap.size W w')
 (HU:∀W,Calls Tryz.prog 39 #[.agg #[.string ut,.string ui]] W fun e w'=>e= .returned (.bool (okU ⟨ut,ui⟩))∧Below W.heap.size W w'):
 Calls Tryz.prog 27 #[sdV ⟨op,ty,⟨ut,ui⟩⟩ v] w fun e w'=>e= .returned (.bool R)∧Below w.heap.size w w':=by
 subst h0
 have hvA:(v≠sAct)↔¬v.toList=[97,99,116,105,111,110]:=by
  rw[ByteArray.toList_eq]
  exact not_congr ⟨fun h=>by rw[h];rfl,fun h=>bytes_inj (by rw[h];rfl)⟩
 have HS:Hid (R=(decide (¬v.toList=[97,99,116,105,111,110]) && (decide (ty.toList=[]) && (decide (ut.toList=[]) && decide (ui.toList=[]))))):=by show _=_;rw[hR,scOk_as];simp only[hvA];simp
 clear hR HN HU hvA
 unfold sdV
 simp only
 go_enter Tryz.func27,Tryz.ntmps27
 go_wp2
 all_goals
  go_ret
  refine⟨?_,kqx⟩
  rw[HS.out]
  try simp[*]
  try (rw[Bool.eq_iff_iff];simp)
theorem psMay_7 (h0:op≠0∧op≠1∧op≠2∧op≠3∧op≠4∧op≠5∧op≠6)(hR:R=scOk (decide (v≠sAct)) ⟨op,ty,⟨ut,ui⟩⟩)
 (HN:∀W,Calls Tryz.prog 40 #[.string ty] W fun e w'=>e= .returned (.bool (okN ty))∧Below W.heap.size W w')
 (HU:∀W,Calls Tryz.prog 39 #[.agg #[.string ut,.string ui]] W fun e w'=>e= .returned (.bool (okU ⟨ut,ui⟩))∧Below W.heap.size W w'):
 Calls Tryz.prog 27 #[sdV ⟨op,ty,⟨ut,ui⟩⟩ v] w fun e w'=>e= .returned (.bool R)∧Below w.heap.size w w':=by
 obtain⟨n0,n1,n2,n3,n4,n5,n6⟩:=h0
 have b0:(op == 0)=false:=by rw[beq_eq_false_iff_ne];exact n0
 have b1:(op == 1)=false:=by rw[beq_eq_false_iff_ne];exact n1
 have b2:(op == 2)=false:=by rw[beq_eq_false_iff_ne];exact n2
 have b3:(op == 3)=false:=by rw[beq_eq_false_iff_ne];exact n3
 have b4:(op == 4)=false:=by rw[beq_eq_false_iff_ne];exact n4
 have b5:(op == 5)=false:=by rw[beq_eq_false_iff_ne];exact n5
 have b6:(op == 6)=false:=by rw[beq_eq_false_iff_ne];exact n6
 have HS:Hid (R=false):=by show _=_;rw[hR,scOk_as,if_neg n0,if_neg (by omega),if_neg n3,if_neg n4,if_neg (by omega)]
 clear hR n0 n1 n2 n3 n4 n5 n6 HN HU
 unfold sdV
 simp only
 go_enter Tryz.func27,Tryz.ntmps27
 go_wp2
 all_goals
  go_ret
  refine⟨?_,kqx⟩
  rw[HS.out]
  try simp[*]
  try (rw[Bool.eq_iff_iff];simp)
end
theorem psMay_any (s:Sco)(v:ByteArray)(w:World)(hs:ScoOk s):
 Calls Tryz.prog 27 #[sdV s v] w fun e w'=>e= .returned (.bool (scOk (decide (v≠sAct)) s))∧Below w.heap.size w w':=by
 obtain⟨op,ty,⟨ut,ui⟩⟩:=s
 have HN:=fun W=>pisName_any ty W hs.ty
 have HU:=fun W=>pisUid_any ⟨ut,ui⟩ W hs.u
 by_cases h0:op=0
 · exact psMay_0 op ty ut ui v w _ h0 rfl HN HU
 by_cases h1:op=1
 · exact psMay_1 op ty ut ui v w _ h1 rfl HN HU
 by_cases h2:op=2
 · exact psMay_2 op ty ut ui v w _ h2 rfl HN HU
 by_cases h3:op=3
 · exact psMay_3 op ty ut ui v w _ h3 rfl HN HU
 by_cases h4:op=4
 · exact psMay_4 op ty ut ui v w _ h4 rfl HN HU
 by_cases h5:op=5
 · exact psMay_5 op ty ut ui v w _ h5 rfl HN HU
 by_cases h6:op=6
 · exact psMay_6 op ty ut ui v w _ h6 rfl HN HU
 exact psMay_7 op ty ut ui v w _ ⟨h0,h1,h2,h3,h4,h5,h6⟩ rfl HN HU
theorem csf_next {cs:List Cnd}{k:Nat}(h:k<cs.length):csf (cs.drop k)=if cdf cs[k]=0 then csf (cs.drop (k+1))else cdf cs[k]:=by
 rw[List.drop_eq_getElem_cons h];rfl
def sdOk (p:Po)(k:Nat):Bool:=if k=0 then scOk true p.who else if k=1 then scOk false p.act else scOk true p.what
def sdS (p:Po)(k:Nat):Sco:=if k=0 then p.who else if k=1 then p.act else p.what
def sdN (k:Nat):ByteArray:=if k=0 then sPrin else if k=1 then sAct else sRes
theorem sides_at {w:World}{b:Nat}{p:Po}(h:Blk w b (sidesC p) 65){k:Nat}(hk:k<3):
 w.cell? ⟨b,k*5,none⟩=some (.int .i64 (sdS p k).op)∧w.cell? ⟨b,k*5+1,none⟩=some (.string (sdS p k).ty)∧w.cell? ⟨b,k*5+2,none⟩=some (.string (sdS p k).u.t)∧w.cell? ⟨b,k*5+3,none⟩=some (.string (sdS p k).u.i)∧w.cell? ⟨b,k*5+4,none⟩=some (.string (sdN k)):=by
 have hc:k=0∨k=1∨k=2:=by omega
 rcases hc with rfl | rfl | rfl
 all_goals exact⟨h.cell _,h.cell _,h.cell _,h.cell _,h.cell _⟩
theorem sd_mayBe {p:Po}(h0:ScoOk p.who)(h1:ScoOk p.act)(h2:ScoOk p.what){k:Nat}(hk:k<3)(w:World):
 Calls Tryz.prog 27 #[sdV (sdS p k) (sdN k)] w fun e w'=>e= .returned (.bool (sdOk p k))∧Below w.heap.size w w':=by
 have hc:k=0∨k=1∨k=2:=by omega
 rcases hc with rfl | rfl | rfl
 · exact psMay_any p.who sPrin w h0
 · exact psMay_any p.act sAct w h1
 · exact psMay_any p.what sRes w h2
theorem pof_name {p:Po}(h:nfault p.nm.data.toList≠0):pof p=nfault p.nm.data.toList:=by unfold pof;rw[if_neg h]
theorem pof_side {p:Po}(h:nfault p.nm.data.toList=0){k:Nat}(hk:k<3)(h2:sdOk p k=false):pof p=1:=by
 unfold pof
 rw[if_pos h]
 have hc:k=0∨k=1∨k=2:=by omega
 rcases hc with rfl | rfl | rfl
 · have:scOk true p.who=false:=h2
   rw[if_neg (by simp[this])]
 · have:scOk false p.act=false:=h2
   rw[if_neg (by simp[this])]
 · have:scOk true p.what=false:=h2
   rw[if_neg (by simp[this])]
theorem pof_rest {p:Po}(h:nfault p.nm.data.toList=0)(h2:∀k,k<3→sdOk p k=true):pof p=if 4<p.cs.length then 4 else csf p.cs:=by
 unfold pof
 have a0:scOk true p.who=true:=h2 0 (by omega)
 have a1:scOk false p.act=true:=h2 1 (by omega)
 have a2:scOk true p.what=true:=h2 2 (by omega)
 rw[if_pos h,if_pos (by simp[a0,a1,a2])]
def poC (p:Po)(pc:Option Addr)(cc:Nat):Array Value:= #[.string p.nm,.bool p.fb,.int .i64 p.who.op,.string p.who.ty,.string p.who.u.t,.string p.who.u.i,.int .i64 p.act.op,.string p.act.ty,.string p.act.u.t,.string p.act.u.i,.int .i64 p.what.op,.string p.what.ty,.string p.what.u.t,.string p.what.u.i,.slice pc p.cs.length cc]
theorem po_cells {w:World}{B:Nat}{p:Po}{pc:Option Addr}{cc:Nat}{T:TypeId}(h:Blk w B (poC p pc cc) T):
 w.cell? ⟨B,0,none⟩=some (.string p.nm)∧w.cell? ⟨B,1,none⟩=some (.bool p.fb)∧w.cell? ⟨B,2,none⟩=some (.int .i64 p.who.op)∧w.cell? ⟨B,3,none⟩=some (.string p.who.ty)∧w.cell? ⟨B,4,none⟩=some (.string p.who.u.t)∧w.cell? ⟨B,5,none⟩=some (.string p.who.u.i)∧w.cell? ⟨B,6,none⟩=some (.int .i64 p.act.op)∧w.cell? ⟨B,7,none⟩=some (.string p.act.ty)∧w.cell? ⟨B,8,none⟩=some (.string p.act.u.t)∧w.cell? ⟨B,9,none⟩=some (.string p.act.u.i)∧w.cell? ⟨B,10,none⟩=some (.int .i64 p.what.op)∧w.cell? ⟨B,11,none⟩=some (.string p.what.ty)∧w.cell? ⟨B,12,none⟩=some (.string p.what.u.t)∧w.cell? ⟨B,13,none⟩=some (.string p.what.u.i)∧w.cell? ⟨B,14,none⟩=some (.slice pc p.cs.length cc):=
 ⟨h.cell 0,h.cell 1,h.cell 2,h.cell 3,h.cell 4,h.cell 5,h.cell 6,h.cell 7,h.cell 8,h.cell 9,h.cell 10,h.cell 11,h.cell 12,h.cell 13,h.cell 14⟩
theorem pcheck_any (p:Po)(pc:Option Addr)(cc:Nat)(w:World)(h:PoA w p pc cc):
 Calls Tryz.prog 12 #[poV p pc cc] w fun e w'=>e= .returned (eV (pof p))∧Below w.heap.size w w':=by
 obtain⟨V,hV⟩:∃V,V=w.alloc (.cells (poC p pc cc) 28):=⟨_,rfl⟩
 have hbV:Below w.heap.size w V:=by rw[hV];exact kqx
 have HBk:Hid (∀w',Below V.heap.size V w'→Blk w' w.heap.size (poC p pc cc) 28):=fun w' hk=>by
  have hb:Blk V w.heap.size (poC p pc cc) 28:=by rw[hV];exact Blk.new w _ _ rfl
  exact hb.up hk
 have HC:=check_any p.nm V h.nm
 have HPA:Hid (PoA V p pc cc):=h.up hbV
 clear h
 by_cases hn:nfault p.nm.data.toList=0
 · rw[eV_nil hn]at HC
   have HS:=fun W=>sidesOf_any p pc cc W
   have HSM:=fun k (hk:k<3) W=>sd_mayBe HPA.out.who HPA.out.act HPA.out.what hk W
   unfold poC at hV
   unfold poV at *
   unfold sdV at HSM
   have HN:Hid (nfault p.nm.data.toList=0):=hn
   have HX:=po_cells (HBk.out V (Below.refl _ _))
   obtain⟨x0,x1,x2,x3,x4,x5,x6,x7,x8,x9,x10,x11,x12,x13,x14⟩:=HX
   clear hn
   go_enter Tryz.func12,Tryz.ntmps12
   go_wp2_with fail
   rw[←hV]
   refine HC.mono ?_
   rintro _ w1 ⟨rfl,rfl⟩
   clear hV HC
   go_wp2_with fail
   refine(HS _).mono ?_
   rintro _ w2 ⟨⟨b,rfl,hsd⟩,hb2⟩
   have HSD:Hid (∀w',Below w2.heap.size w2 w'→Blk w' b (sidesC p) 65):=fun w' hk=>hsd.up hk
   clear hsd HS x0 x1 x2 x3 x4 x5 x6 x7 x8 x9 x10 x11 x12 x13 x14
   go_wp2
   go_loopw [18] (fun i wr=>∃k:Nat,k≤3∧i= .int .i64 k∧Hid (∀j,j<k→sdOk p j=true)∧Below w2.heap.size w2 wr) (fun i _=>3-(intOf i).toNat)
   case atStart=>exact⟨0,by omega,rfl,fun j hj=>by omega,Below.refl _ _⟩
   case round=>
    obtain⟨k,hk,rfl,HA,hb⟩:=hrel
    by_cases hlt:k<3
    · have i1:(k:Int)<3:=by omega
      obtain⟨y0,y1,y2,y3,y4⟩:=sides_at (HSD.out wr hb) hlt
      have hbl:b<wr.heap.size:=(HSD.out wr hb).lt
      have HM:=HSM k hlt
      have HSD2:Hid (sdOk p k=false→pof p=1):=fun e=>pof_side HN.out hlt e
      have HNX:Hid (sdOk p k=true→∀j,j<k+1→sdOk p j=true):=fun e j hj=>by
       by_cases hjk:j<k
       · exact HA.out j hjk
       · have:j=k:=by omega
         rw[this];exact e
      generalize sdS p k=s at *
      generalize sdN k=nm at *
      cases hok:sdOk p k
      · rw[hok]at HM
        have HP:Hid (pof p=1):=HSD2.out hok
        clear HSD2 HNX hok HA
        go_wp2_with fail
        refine(HM _).mono ?_
        rintro _ w3 ⟨rfl,hb3⟩
        go_wp2
        go_ret
        exact⟨by rw[HP.out];rfl,kqt hbV (kqt hb2 (kqt hb (kqt kqx hb3)))⟩
      · rw[hok]at HM
        have HP:Hid (∀j,j<k+1→sdOk p j=true):=HNX.out hok
        clear HSD2 HNX hok HA
        go_wp2_with fail
        refine(HM _).mono ?_
        rintro _ w3 ⟨rfl,hb3⟩
        go_wp2
        go_roundw
        case rel=>exact⟨k+1,by omega,by go_num,HP,kqt hb (kqt kqx hb3)⟩
        case measure=>simp[intOf];omega
    · have i1:¬(k:Int)<3:=by omega
      have HP:Hid (pof p=if 4<p.cs.length then 4 else csf p.cs):=pof_rest HN.out (fun j hj=>HA.out j (by omega))
      have hb02:=kqt hb2 hb
      obtain⟨_,_,_,_,_,_,_,_,_,_,_,_,_,_,x14⟩:=po_cells (HBk.out wr hb02)
      have HPR:Hid (PoA wr p pc cc):=HPA.out.up hb02
      have hb03:Below w.heap.size w wr:=kqt hbV hb02
      have HBr:Hid (∀w',Below wr.heap.size wr w'→w'.cell? ⟨w.heap.size,14,none⟩=some (.slice pc p.cs.length cc)):=fun w' hk=>by
       obtain⟨_,_,_,_,_,_,_,_,_,_,_,_,_,_,x14⟩:=po_cells (HBk.out w' (kqt hb02 hk))
       exact x14
      clear HPA HSM HSD HBk HA hb2 hb hb02 hbV
      by_cases h4:4<p.cs.length
      · have h4':(4:Int)<(p.cs.length:Int):=by omega
        have HP2:Hid (pof p=4):=by show _=_;rw[HP.out,if_pos h4]
        clear h4
        go_wp2
        go_ret
        exact⟨by rw[HP2.out];rfl,hb03⟩
      · have h4':¬(4:Int)<(p.cs.length:Int):=by omega
        have HP2:Hid (pof p=csf p.cs):=by show _=_;rw[HP.out,if_neg h4]
        have h44:p.cs.length≤4:=by omega
        clear h4
        rename World=>wO
        go_wp2
        go_loopw [35] (fun i w4=>∃k:Nat,k≤p.cs.length∧i= .int .i64 k∧Hid (csf p.cs=csf (p.cs.drop k))∧Below wO.heap.size wO w4) (fun i _=>p.cs.length-(intOf i).toNat)
        case atStart=>exact⟨0,Nat.zero_le _,rfl,rfl,Below.refl _ _⟩
        case round=>
         obtain⟨k,hk2,rfl,HA,hb⟩:=hrel
         have z14:=HBr.out wr hb
         by_cases hlt:k<p.cs.length
         · have i2:(k:Int)<(p.cs.length:Int):=by omega
           obtain⟨bb,off,pe,ce,hpc,hbb,hak,z0,z1⟩:=(HPR.out.cl.up hb).at hlt
           subst hpc
           have HNX:Hid (csf (p.cs.drop k)=if cdf p.cs[k]=0 then csf (p.cs.drop (k+1))else cdf p.cs[k]):=csf_next hlt
           have HM:=fun W (hW:Below wr.heap.size wr W)=>pcheckCond_any p.cs[k] pe ce W (hak.up hW)
           unfold cndV at HM
           generalize p.cs[k]=c at *
           clear hak
           by_cases hc:cdf c=0
           · simp only[eV_nil hc]at HM
             have HA2:Hid (csf p.cs=csf (p.cs.drop (k+1))):=by show _=_;rw[HA.out,HNX.out,if_pos hc]
             clear hc HNX HA
             go_wp2_with fail
             refine(HM _ kqx).mono ?_
             rintro _ w5 ⟨rfl,hb5⟩
             go_wp2
             go_roundw
             case rel=>exact⟨k+1,by omega,by go_num,HA2,kqt hb (kqt kqx hb5)⟩
             case measure=>simp[intOf];omega
           · simp only[eV_not hc]at HM
             have HP3:Hid (eV (pof p)= .iface 35 (.int .i64 (cdf c))):=by show _=_;rw[HP2.out,HA.out,HNX.out,if_neg hc,eV_not hc]
             generalize cdf c=n at *
             clear hc HNX HA
             go_wp2_with fail
             refine(HM _ kqx).mono ?_
             rintro _ w5 ⟨rfl,hb5⟩
             go_wp2
             go_ret
             exact⟨by rw[HP3.out];rfl,kqt hb03 (kqt hb (kqt kqx hb5))⟩
         · have i2:¬(k:Int)<(p.cs.length:Int):=by omega
           have HP3:Hid (pof p=0):=by show _=_;rw[HP2.out,HA.out,List.drop_eq_nil_of_le (by omega)];rfl
           go_wp2
           go_ret
           exact⟨by rw[HP3.out];rfl,kqt hb03 hb⟩
 · rw[eV_not hn]at HC
   have HN:Hid (pof p=nfault p.nm.data.toList):=pof_name hn
   generalize nfault p.nm.data.toList=n at *
   unfold poC at hV
   unfold poV
   have HX:=po_cells (HBk.out V (Below.refl _ _))
   obtain⟨x0,x1,x2,x3,x4,x5,x6,x7,x8,x9,x10,x11,x12,x13,x14⟩:=HX
   have HN2:Hid (eV (pof p)= .iface 35 (.int .i64 n)):=by show _=_;rw[HN.out,eV_not hn]
   clear hn HPA HBk
   go_enter Tryz.func12,Tryz.ntmps12
   go_wp2_with fail
   rw[←hV]
   refine HC.mono ?_
   rintro _ w1 ⟨rfl,rfl⟩
   clear hV
   go_wp2
   go_ret
   exact⟨by rw[HN2.out];rfl,hbV⟩
set_option linter.unusedSectionVars false
theorem slotted_any (s:Sco)(w:World):Calls Tryz.prog 18 #[scV s] w fun e w'=>e= .returned (.bool (hsl s))∧Below w.heap.size w w':=by
 obtain⟨op,ty,u⟩:=s
 unfold hsl scV
 simp only
 by_cases h5:op=5
 · subst h5
   go_enter Tryz.func18,Tryz.ntmps18
   go_wp2
   go_ret
   exact⟨rfl,kqx⟩
 · have b5:(op == 5)=false:=by simpa using h5
   by_cases h6:op=6
   · subst h6
     go_enter Tryz.func18,Tryz.ntmps18
     go_wp2
     go_ret
     exact⟨rfl,kqx⟩
   · have b6:(op == 6)=false:=by simpa using h6
     rw[decide_eq_false h5,decide_eq_false h6]
     clear h5 h6
     go_enter Tryz.func18,Tryz.ntmps18
     go_wp2
     go_ret
     exact⟨rfl,kqx⟩
theorem rfilled_any (s:Sco)(u:Ui)(w:World):Calls Tryz.prog 21 #[scV s,uiV u] w fun e w'=>e= .returned (scV (fil s u))∧Below w.heap.size w w':=by
 obtain⟨op,ty,vt,vi⟩:=s
 obtain⟨ut,ui⟩:=u
 unfold fil scV uiV
 simp only
 by_cases h5:op=5
 · subst h5
   rw[if_pos rfl]
   go_enter Tryz.func21,Tryz.ntmps21
   go_wp2
   exact bodyPost_ret (v:=.agg #[.int .i64 1,.string ⟨#[]⟩,.string ut,.string ui]) (by simp[results,Tryz.results21,go_sem]) rfl ⟨rfl,kqx⟩
 rw[if_neg h5]
 by_cases h6:op=6
 · subst h6
   rw[if_pos rfl]
   go_enter Tryz.func21,Tryz.ntmps21
   go_wp2
   exact bodyPost_ret (v:=.agg #[.int .i64 2,.string ⟨#[]⟩,.string ut,.string ui]) (by simp[results,Tryz.results21,go_sem]) rfl ⟨rfl,kqx⟩
 rw[if_neg h6]
 have b5:(op == 5)=false:=by simpa using h5
 have b6:(op == 6)=false:=by simpa using h6
 clear h5 h6
 · go_enter Tryz.func21,Tryz.ntmps21
   go_wp2
   exact bodyPost_ret (v:=.agg #[.int .i64 op,.string ty,.string vt,.string vi]) (by simp[results,Tryz.results21,go_sem]) rfl ⟨rfl,kqx⟩
section
variable (p:Po) (pc:Option Addr) (cc:Nat) (w:World)
theorem slotsOf_00 (h1:hsl p.who=false)(h2:hsl p.what=false):
 Calls Tryz.prog 7 #[poV p pc cc] w fun e w'=>(∃q c,e= .returned (.slice q (slL p).length c)∧TL w' q (slL p))∧Below w.heap.size w w':=by
 obtain⟨V,hV⟩:∃V,V=w.alloc (.cells (poC p pc cc) 28):=⟨_,rfl⟩
 have hbV:Below w.heap.size w V:=by rw[hV];exact kqx
 have HBk:Hid (∀W,Below V.heap.size V W→Blk W w.heap.size (poC p pc cc) 28):=fun W hW=>by
  have hb:Blk V w.heap.size (poC p pc cc) 28:=by rw[hV];exact Blk.new w _ _ rfl
  exact hb.up hW
 have HS1:=slotted_any p.who
 have HS2:=slotted_any p.what
 have e:slL p=[]:=by unfold slL;rw[h1,h2];rfl
 rw[e]
 rw[h1]at HS1
 rw[h2]at HS2
 clear h1 h2 e
 unfold poC at hV
 unfold poV at *
 try unfold scV at *
 go_enter Tryz.func7,Tryz.ntmps7
 go_wp2_with fail
 rw[←hV]
 clear hV
 refine(HS1 _).mono ?_
 rintro _ w2 ⟨rfl,hb2⟩
 clear HS1
 have hB:=HBk.out w2 hb2
 obtain⟨x0,x1,x2,x3,x4,x5,x6,x7,x8,x9,x10,x11,x12,x13,x14⟩:=po_cells hB
 have hlt:w.heap.size<w2.heap.size:=hB.lt
 clear hB
 go_wp2_with fail
 refine(HS2 _).mono ?_
 rintro _ w4 ⟨rfl,hb4'⟩
 have hb4:Below V.heap.size V w4:=kqt hb2 hb4'
 clear HS2 hb4' HBk
 clear hlt x0 x1 x2 x3 x4 x5 x6 x7 x8 x9 x10 x11 x12 x13 x14
 have HT:Hid (TL w4 none ([]:List ByteArray)):=.inl rfl
 go_wp2
 go_ret
 exact⟨⟨_,_,rfl,HT.out⟩,kqt hbV hb4⟩
theorem slotsOf_01 (h1:hsl p.who=false)(h2:hsl p.what=true):
 Calls Tryz.prog 7 #[poV p pc cc] w fun e w'=>(∃q c,e= .returned (.slice q (slL p).length c)∧TL w' q (slL p))∧Below w.heap.size w w':=by
 obtain⟨V,hV⟩:∃V,V=w.alloc (.cells (poC p pc cc) 28):=⟨_,rfl⟩
 have hbV:Below w.heap.size w V:=by rw[hV];exact kqx
 have HBk:Hid (∀W,Below V.heap.size V W→Blk W w.heap.size (poC p pc cc) 28):=fun W hW=>by
  have hb:Blk V w.heap.size (poC p pc cc) 28:=by rw[hV];exact Blk.new w _ _ rfl
  exact hb.up hW
 have HS1:=slotted_any p.who
 have HS2:=slotted_any p.what
 have e:slL p=[sQr]:=by unfold slL;rw[h1,h2];rfl
 rw[e]
 rw[h1]at HS1
 rw[h2]at HS2
 clear h1 h2 e
 unfold poC at hV
 unfold poV at *
 try unfold scV at *
 go_enter Tryz.func7,Tryz.ntmps7
 go_wp2_with fail
 rw[←hV]
 clear hV
 refine(HS1 _).mono ?_
 rintro _ w2 ⟨rfl,hb2⟩
 clear HS1
 have hB:=HBk.out w2 hb2
 obtain⟨x0,x1,x2,x3,x4,x5,x6,x7,x8,x9,x10,x11,x12,x13,x14⟩:=po_cells hB
 have hlt:w.heap.size<w2.heap.size:=hB.lt
 clear hB
 go_wp2_with fail
 refine(HS2 _).mono ?_
 rintro _ w4 ⟨rfl,hb4'⟩
 have hb4:Below V.heap.size V w4:=kqt hb2 hb4'
 clear HS2 hb4' HBk
 clear hlt x0 x1 x2 x3 x4 x5 x6 x7 x8 x9 x10 x11 x12 x13 x14
 go_wp2_with (at_builtin;refine append_text w4 rfl (.tmp 13) (.tmp 14) rfl V.heap.size (.slice none 0 0) [] rfl (Row1.nil _ _ _) sQr rfl (by simp) hb4.size ?_;intro v5 w5 ho5 hk5;have hb5:Below V.heap.size V w5:=hb4.trans hk5.bel;have HO5:Hid (OT w5 V.heap.size v5 ([sQr]:List ByteArray)):=ho5;clear ho5 hk5;obtain⟨q,c,rfl,ht,hl1,hl2⟩:=HO5.out.texts;have HT:Hid (TL w5 q ([sQr]:List ByteArray)):=ht;clear ht hl1 hl2 HO5)
 go_ret
 exact⟨⟨_,_,rfl,HT.out⟩,kqt hbV hb5⟩
theorem slotsOf_10 (h1:hsl p.who=true)(h2:hsl p.what=false):
 Calls Tryz.prog 7 #[poV p pc cc] w fun e w'=>(∃q c,e= .returned (.slice q (slL p).length c)∧TL w' q (slL p))∧Below w.heap.size w w':=by
 obtain⟨V,hV⟩:∃V,V=w.alloc (.cells (poC p pc cc) 28):=⟨_,rfl⟩
 have hbV:Below w.heap.size w V:=by rw[hV];exact kqx
 have HBk:Hid (∀W,Below V.heap.size V W→Blk W w.heap.size (poC p pc cc) 28):=fun W hW=>by
  have hb:Blk V w.heap.size (poC p pc cc) 28:=by rw[hV];exact Blk.new w _ _ rfl
  exact hb.up hW
 have HS1:=slotted_any p.who
 have HS2:=slotted_any p.what
 have e:slL p=[sQp]:=by unfold slL;rw[h1,h2];rfl
 rw[e]
 rw[h1]at HS1
 rw[h2]at HS2
 clear h1 h2 e
 unfold poC at hV
 unfold poV at *
 try unfold scV at *
 go_enter Tryz.func7,Tryz.ntmps7
 go_wp2_with fail
 rw[←hV]
 clear hV
 refine(HS1 _).mono ?_
 rintro _ w2 ⟨rfl,hb2⟩
 clear HS1
 go_wp2_with (at_builtin;refine append_text w2 rfl (.tmp 7) (.tmp 8) rfl V.heap.size (.slice none 0 0) [] rfl (Row1.nil _ _ _) sQp rfl (by simp) hb2.size ?_;intro v3 w3 ho3 hk3;have hb3:Below V.heap.size V w3:=hb2.trans hk3.bel;have HO3:Hid (OT w3 V.heap.size v3 [sQp]):=ho3;have hB:=HBk.out w3 hb3;obtain⟨x0,x1,x2,x3,x4,x5,x6,x7,x8,x9,x10,x11,x12,x13,x14⟩:=po_cells hB;have hlt:w.heap.size<w3.heap.size:=hB.lt;clear hB ho3 hk3)
 refine(HS2 _).mono ?_
 rintro _ w4 ⟨rfl,hb4'⟩
 have hb4:Below V.heap.size V w4:=kqt hb3 hb4'
 have HO4:Hid (OT w4 V.heap.size v3 [sQp]):=Row1.kept (e:=184) HO3.out (Kept.of_below hb4' hb3.size) (by decide)
 clear HO3
 clear HS2 hb4' HBk
 clear hlt x0 x1 x2 x3 x4 x5 x6 x7 x8 x9 x10 x11 x12 x13 x14
 obtain⟨q,c,rfl,ht,hl1,hl2⟩:=HO4.out.texts
 have HT:Hid (TL w4 q ([sQp]:List ByteArray)):=ht
 clear ht hl1 hl2 HO4
 go_wp2
 go_ret
 exact⟨⟨_,_,rfl,HT.out⟩,kqt hbV hb4⟩
theorem slotsOf_11 (h1:hsl p.who=true)(h2:hsl p.what=true):
 Calls Tryz.prog 7 #[poV p pc cc] w fun e w'=>(∃q c,e= .returned (.slice q (slL p).length c)∧TL w' q (slL p))∧Below w.heap.size w w':=by
 obtain⟨V,hV⟩:∃V,V=w.alloc (.cells (poC p pc cc) 28):=⟨_,rfl⟩
 have hbV:Below w.heap.size w V:=by rw[hV];exact kqx
 have HBk:Hid (∀W,Below V.heap.size V W→Blk W w.heap.size (poC p pc cc) 28):=fun W hW=>by
  have hb:Blk V w.heap.size (poC p pc cc) 28:=by rw[hV];exact Blk.new w _ _ rfl
  exact hb.up hW
 have HS1:=slotted_any p.who
 have HS2:=slotted_any p.what
 have e:slL p=[sQp,sQr]:=by unfold slL;rw[h1,h2];rfl
 rw[e]
 rw[h1]at HS1
 rw[h2]at HS2
 clear h1 h2 e
 unfold poC at hV
 unfold poV at *
 try unfold scV at *
 go_enter Tryz.func7,Tryz.ntmps7
 go_wp2_with fail
 rw[←hV]
 clear hV
 refine(HS1 _).mono ?_
 rintro _ w2 ⟨rfl,hb2⟩
 clear HS1
 go_wp2_with (at_builtin;refine append_text w2 rfl (.tmp 7) (.tmp 8) rfl V.heap.size (.slice none 0 0) [] rfl (Row1.nil _ _ _) sQp rfl (by simp) hb2.size ?_;intro v3 w3 ho3 hk3;have hb3:Below V.heap.size V w3:=hb2.trans hk3.bel;have HO3:Hid (OT w3 V.heap.size v3 [sQp]):=ho3;have hB:=HBk.out w3 hb3;obtain⟨x0,x1,x2,x3,x4,x5,x6,x7,x8,x9,x10,x11,x12,x13,x14⟩:=po_cells hB;have hlt:w.heap.size<w3.heap.size:=hB.lt;clear hB ho3 hk3)
 refine(HS2 _).mono ?_
 rintro _ w4 ⟨rfl,hb4'⟩
 have hb4:Below V.heap.size V w4:=kqt hb3 hb4'
 have HO4:Hid (OT w4 V.heap.size v3 [sQp]):=Row1.kept (e:=184) HO3.out (Kept.of_below hb4' hb3.size) (by decide)
 clear HO3
 clear HS2 hb4' HBk
 clear hlt x0 x1 x2 x3 x4 x5 x6 x7 x8 x9 x10 x11 x12 x13 x14
 go_wp2_with (at_builtin;refine append_text w4 rfl (.tmp 13) (.tmp 14) rfl V.heap.size v3 [sQp] rfl HO4.out sQr rfl (by simp) hb4.size ?_;intro v5 w5 ho5 hk5;have hb5:Below V.heap.size V w5:=hb4.trans hk5.bel;have HO5:Hid (OT w5 V.heap.size v5 ([sQp,sQr]:List ByteArray)):=ho5;clear ho5 hk5;obtain⟨q,c,rfl,ht,hl1,hl2⟩:=HO5.out.texts;have HT:Hid (TL w5 q ([sQp,sQr]:List ByteArray)):=ht;clear ht hl1 hl2 HO5)
 go_ret
 exact⟨⟨_,_,rfl,HT.out⟩,kqt hbV hb5⟩
theorem slotsOf_any:
 Calls Tryz.prog 7 #[poV p pc cc] w fun e w'=>(∃q c,e= .returned (.slice q (slL p).length c)∧TL w' q (slL p))∧Below w.heap.size w w':=by
 cases h1:hsl p.who<;>cases h2:hsl p.what
 · exact slotsOf_00 p pc cc w h1 h2
 · exact slotsOf_01 p pc cc w h1 h2
 · exact slotsOf_10 p pc cc w h1 h2
 · exact slotsOf_11 p pc cc w h1 h2
end
section
variable (op:Int) (ty ut ui:ByteArray) (sl:Bool) (w:World) (R:Bool) (n u:Int)
theorem rsFits_0 (h0:op=0)(hR:R=if op=0 then decide (ty.toList=[]) && (decide (ut.toList=[]) && decide (ui.toList=[]))
 else if op=1∨op=2 then decide (ty.toList=[]) && (u == 0)
 else if op=3 then(n == 0) && (decide (ut.toList=[]) && decide (ui.toList=[]))
 else if op=4 then(n == 0) && (u == 0)
 else if op=5∨op=6 then sl && (decide (ty.toList=[]) && (decide (ut.toList=[]) && decide (ui.toList=[])))
 else false)
 (HN:∀W,Calls Tryz.prog 14 #[.string ty] W fun e w'=>e= .returned (.int .i64 n)∧w'=W)
 (HU:∀W,Calls Tryz.prog 20 #[.agg #[.string ut,.string ui]] W fun e w'=>e= .returned (.int .i64 u)∧Below W.heap.size W w'):
 Calls Tryz.prog 15 #[.agg #[.int .i64 op,.string ty,.string ut,.string ui],.bool sl] w fun e w'=>e= .returned (.bool R)∧Below w.heap.size w w':=by
 subst h0
 have HS:Hid (R=(decide (ty.toList=[]) && (decide (ut.toList=[]) && decide (ui.toList=[])))):=by show _=_;rw[hR];simp
 clear hR
 have HB:Hid (∀w',Below (w.alloc (.cells #[.int .i64 0,.string ty,.string ut,.string ui] 25)).heap.size (w.alloc (.cells #[.int .i64 0,.string ty,.string ut,.string ui] 25)) w'→w'.cell? ⟨w.heap.size,0,none⟩=some (.int .i64 0)∧w'.cell? ⟨w.heap.size,1,none⟩=some (.string ty)∧w'.cell? ⟨w.heap.size,2,none⟩=some (.string ut)∧w'.cell? ⟨w.heap.size,3,none⟩=some (.string ui)):=fun w' hk=>by
  have hb:=(Blk.new w (B:=w.heap.size) #[.int .i64 0,.string ty,.string ut,.string ui] 25 rfl).up hk
  exact⟨hb.cell 0,hb.cell 1,hb.cell 2,hb.cell 3⟩
 go_enter Tryz.func15,Tryz.ntmps15
 go_wp2_with (first | (go_at_call 20;refine(HU _).mono ?_;rintro _ w1 ⟨rfl,hb1⟩;obtain⟨x0,x1,x2,x3⟩:=HB.out w1 hb1;have hbz:Below w.heap.size w w1:=kqt kqx hb1) | (go_at_call 14;refine(HN _).mono ?_;rintro _ w2 ⟨rfl,rfl⟩))
 all_goals
  go_ret
  refine⟨?_,hbz⟩
  rw[HS.out]
  try simp[*]
  try (rw[Bool.eq_iff_iff];simp)
theorem rsFits_1 (h0:op=1)(hR:R=if op=0 then decide (ty.toList=[]) && (decide (ut.toList=[]) && decide (ui.toList=[]))
 else if op=1∨op=2 then decide (ty.toList=[]) && (u == 0)
 else if op=3 then(n == 0) && (decide (ut.toList=[]) && decide (ui.toList=[]))
 else if op=4 then(n == 0) && (u == 0)
 else if op=5∨op=6 then sl && (decide (ty.toList=[]) && (decide (ut.toList=[]) && decide (ui.toList=[])))
 else false)
 (HN:∀W,Calls Tryz.prog 14 #[.string ty] W fun e w'=>e= .returned (.int .i64 n)∧w'=W)
 (HU:∀W,Calls Tryz.prog 20 #[.agg #[.string ut,.string ui]] W fun e w'=>e= .returned (.int .i64 u)∧Below W.heap.size W w'):
 Calls Tryz.prog 15 #[.agg #[.int .i64 op,.string ty,.string ut,.string ui],.bool sl] w fun e w'=>e= .returned (.bool R)∧Below w.heap.size w w':=by
 subst h0
 have HS:Hid (R=(decide (ty.toList=[]) && (u == 0))):=by show _=_;rw[hR];simp
 clear hR
 have HB:Hid (∀w',Below (w.alloc (.cells #[.int .i64 1,.string ty,.string ut,.string ui] 25)).heap.size (w.alloc (.cells #[.int .i64 1,.string ty,.string ut,.string ui] 25)) w'→w'.cell? ⟨w.heap.size,0,none⟩=some (.int .i64 1)∧w'.cell? ⟨w.heap.size,1,none⟩=some (.string ty)∧w'.cell? ⟨w.heap.size,2,none⟩=some (.string ut)∧w'.cell? ⟨w.heap.size,3,none⟩=some (.string ui)):=fun w' hk=>by
  have hb:=(Blk.new w (B:=w.heap.size) #[.int .i64 1,.string ty,.string ut,.string ui] 25 rfl).up hk
  exact⟨hb.cell 0,hb.cell 1,hb.cell 2,hb.cell 3⟩
 go_enter Tryz.func15,Tryz.ntmps15
 go_wp2_with (first | (go_at_call 20;refine(HU _).mono ?_;rintro _ w1 ⟨rfl,hb1⟩;obtain⟨x0,x1,x2,x3⟩:=HB.out w1 hb1;have hbz:Below w.heap.size w w1:=kqt kqx hb1) | (go_at_call 14;refine(HN _).mono ?_;rintro _ w2 ⟨rfl,rfl⟩))
 all_goals
  go_ret
  refine⟨?_,hbz⟩
  rw[HS.out]
  try simp[*]
  try (rw[Bool.eq_iff_iff];simp)
theorem rsFits_2 (h0:op=2)(hR:R=if op=0 then decide (ty.toList=[]) && (decide (ut.toList=[]) && decide (ui.toList=[]))
 else if op=1∨op=2 then decide (ty.toList=[]) && (u == 0)
 else if op=3 then(n == 0) && (decide (ut.toList=[]) && decide (ui.toList=[]))
 else if op=4 then(n == 0) && (u == 0)
 else if op=5∨op=6 then sl && (decide (ty.toList=[]) && (decide (ut.toList=[]) && decide (ui.toList=[])))
 else false)
 (HN:∀W,Calls Tryz.prog 14 #[.string ty] W fun e w'=>e= .returned (.int .i64 n)∧w'=W)
 (HU:∀W,Calls Tryz.prog 20 #[.agg #[.string ut,.string ui]] W fun e w'=>e= .returned (.int .i64 u)∧Below W.heap.size W w'):
 Calls Tryz.prog 15 #[.agg #[.int .i64 op,.string ty,.string ut,.string ui],.bool sl] w fun e w'=>e= .returned (.bool R)∧Below w.heap.size w w':=by
 subst h0
 have HS:Hid (R=(decide (ty.toList=[]) && (u == 0))):=by show _=_;rw[hR];simp
 clear hR
 have HB:Hid (∀w',Below (w.alloc (.cells #[.int .i64 2,.string ty,.string ut,.string ui] 25)).heap.size (w.alloc (.cells #[.int .i64 2,.string ty,.string ut,.string ui] 25)) w'→w'.cell? ⟨w.heap.size,0,none⟩=some (.int .i64 2)∧w'.cell? ⟨w.heap.size,1,none⟩=some (.string ty)∧w'.cell? ⟨w.heap.size,2,none⟩=some (.string ut)∧w'.cell? ⟨w.heap.size,3,none⟩=some (.string ui)):=fun w' hk=>by
  have hb:=(Blk.new w (B:=w.heap.size) #[.int .i64 2,.string ty,.string ut,.string ui] 25 rfl).up hk
  exact⟨hb.cell 0,hb.cell 1,hb.cell 2,hb.cell 3⟩
 go_enter Tryz.func15,Tryz.ntmps15
 go_wp2_with (first | (go_at_call 20;refine(HU _).mono ?_;rintro _ w1 ⟨rfl,hb1⟩;obtain⟨x0,x1,x2,x3⟩:=HB.out w1 hb1;have hbz:Below w.heap.size w w1:=kqt kqx hb1) | (go_at_call 14;refine(HN _).mono ?_;rintro _ w2 ⟨rfl,rfl⟩))
 all_goals
  go_ret
  refine⟨?_,hbz⟩
  rw[HS.out]
  try simp[*]
  try (rw[Bool.eq_iff_iff];simp)
theorem rsFits_3 (h0:op=3)(hR:R=if op=0 then decide (ty.toList=[]) && (decide (ut.toList=[]) && decide (ui.toList=[]))
 else if op=1∨op=2 then decide (ty.toList=[]) && (u == 0)
 else if op=3 then(n == 0) && (decide (ut.toList=[]) && decide (ui.toList=[]))
 else if op=4 then(n == 0) && (u == 0)
 else if op=5∨op=6 then sl && (decide (ty.toList=[]) && (decide (ut.toList=[]) && decide (ui.toList=[])))
 else false)
 (HN:∀W,Calls Tryz.prog 14 #[.string ty] W fun e w'=>e= .returned (.int .i64 n)∧w'=W)
 (HU:∀W,Calls Tryz.prog 20 #[.agg #[.string ut,.string ui]] W fun e w'=>e= .returned (.int .i64 u)∧Below W.heap.size W w'):
 Calls Tryz.prog 15 #[.agg #[.int .i64 op,.string ty,.string ut,.string ui],.bool sl] w fun e w'=>e= .returned (.bool R)∧Below w.heap.size w w':=by
 subst h0
 have HS:Hid (R=((n == 0) && (decide (ut.toList=[]) && decide (ui.toList=[])))):=by show _=_;rw[hR];simp
 clear hR
 have HB:Hid (∀w',Below (w.alloc (.cells #[.int .i64 3,.string ty,.string ut,.string ui] 25)).heap.size (w.alloc (.cells #[.int .i64 3,.string ty,.string ut,.string ui] 25)) w'→w'.cell? ⟨w.heap.size,0,none⟩=some (.int .i64 3)∧w'.cell? ⟨w.heap.size,1,none⟩=some (.string ty)∧w'.cell? ⟨w.heap.size,2,none⟩=some (.string ut)∧w'.cell? ⟨w.heap.size,3,none⟩=some (.string ui)):=fun w' hk=>by
  have hb:=(Blk.new w (B:=w.heap.size) #[.int .i64 3,.string ty,.string ut,.string ui] 25 rfl).up hk
  exact⟨hb.cell 0,hb.cell 1,hb.cell 2,hb.cell 3⟩
 go_enter Tryz.func15,Tryz.ntmps15
 go_wp2_with (first | (go_at_call 20;refine(HU _).mono ?_;rintro _ w1 ⟨rfl,hb1⟩;obtain⟨x0,x1,x2,x3⟩:=HB.out w1 hb1;have hbz:Below w.heap.size w w1:=kqt kqx hb1) | (go_at_call 14;refine(HN _).mono ?_;rintro _ w2 ⟨rfl,rfl⟩))
 all_goals
  go_ret
  refine⟨?_,hbz⟩
  rw[HS.out]
  try simp[*]
  try (rw[Bool.eq_iff_iff];simp)
theorem rsFits_4 (h0:op=4)(hR:R=if op=0 then decide (ty.toList=[]) && (decide (ut.toList=[]) && decide (ui.toList=[]))
 else if op=1∨op=2 then decide (ty.toList=[]) && (u == 0)
 else if op=3 then(n == 0) && (decide (ut.toList=[]) && decide (ui.toList=[]))
 else if op=4 then(n == 0) && (u == 0)
 else if op=5∨op=6 then sl && (decide (ty.toList=[]) && (decide (ut.toList=[]) && decide (ui.toList=[])))
 else false)
 (HN:∀W,Calls Tryz.prog 14 #[.string ty] W fun e w'=>e= .returned (.int .i64 n)∧w'=W)
 (HU:∀W,Calls Tryz.prog 20 #[.agg #[.string ut,.string ui]] W fun e w'=>e= .returned (.int .i64 u)∧Below W.heap.size W w'):
 Calls Tryz.prog 15 #[.agg #[.int .i64 op,.string ty,.string ut,.string ui],.bool sl] w fun e w'=>e= .returned (.bool R)∧Below w.heap.size w w':=by
 subst h0
 have HS:Hid (R=((n == 0) && (u == 0))):=by show _=_;rw[hR];simp
 clear hR
 have HB:Hid (∀w',Below (w.alloc (.cells #[.int .i64 4,.string ty,.string ut,.string ui] 25)).heap.size (w.alloc (.cells #[.int .i64 4,.string ty,.string ut,.string ui] 25)) w'→w'.cell? ⟨w.heap.size,0,none⟩=some (.int .i64 4)∧w'.cell? ⟨w.heap.size,1,none⟩=some (.string ty)∧w'.cell? ⟨w.heap.size,2,none⟩=some (.string ut)∧w'.cell? ⟨w.heap.size,3,none⟩=some (.string ui)):=fun w' hk=>by
  have hb:=(Blk.new w (B:=w.heap.size) #[.int .i64 4,.string ty,.string ut,.string ui] 25 rfl).up hk
  exact⟨hb.cell 0,hb.cell 1,hb.cell 2,hb.cell 3⟩
 go_enter Tryz.func15,Tryz.ntmps15
 go_wp2_with (first | (go_at_call 20;refine(HU _).mono ?_;rintro _ w1 ⟨rfl,hb1⟩;obtain⟨x0,x1,x2,x3⟩:=HB.out w1 hb1;have hbz:Below w.heap.size w w1:=kqt kqx hb1) | (go_at_call 14;refine(HN _).mono ?_;rintro _ w2 ⟨rfl,rfl⟩))
 all_goals
  go_ret
  refine⟨?_,hbz⟩
  rw[HS.out]
  try simp[*]
  try (rw[Bool.eq_iff_iff];simp)
theorem rsFits_5 (h0:op=5)(hR:R=if op=0 then decide (ty.toList=[]) && (decide (ut.toList=[]) && decide (ui.toList=[]))
 else if op=1∨op=2 then decide (ty.toList=[]) && (u == 0)
 else if op=3 then(n == 0) && (decide (ut.toList=[]) && decide (ui.toList=[]))
 else if op=4 then(n == 0) && (u == 0)
 else if op=5∨op=6 then sl && (decide (ty.toList=[]) && (decide (ut.toList=[]) && decide (ui.toList=[])))
 else false)
 (HN:∀W,Calls Tryz.prog 14 #[.string ty] W fun e w'=>e= .returned (.int .i64 n)∧w'=W)
 (HU:∀W,Calls Tryz.prog 20 #[.agg #[.string ut,.string ui]] W fun e w'=>e= .returned (.int .i64 u)∧Below W.heap.size W w'):
 Calls Tryz.prog 15 #[.agg #[.int .i64 op,.string ty,.string ut,.string ui],.bool sl] w fun e w'=>e= .returned (.bool R)∧Below w.heap.size w w':=by
 subst h0
 have HS:Hid (R=(sl && (decide (ty.toList=[]) && (decide (ut.toList=[]) && decide (ui.toList=[]))))):=by show _=_;rw[hR];simp
 clear hR
 have HB:Hid (∀w',Below (w.alloc (.cells #[.int .i64 5,.string ty,.string ut,.string ui] 25)).heap.size (w.alloc (.cells #[.int .i64 5,.string ty,.string ut,.string ui] 25)) w'→w'.cell? ⟨w.heap.size,0,none⟩=some (.int .i64 5)∧w'.cell? ⟨w.heap.size,1,none⟩=some (.string ty)∧w'.cell? ⟨w.heap.size,2,none⟩=some (.string ut)∧w'.cell? ⟨w.heap.size,3,none⟩=some (.string ui)):=fun w' hk=>by
  have hb:=(Blk.new w (B:=w.heap.size) #[.int .i64 5,.string ty,.string ut,.string ui] 25 rfl).up hk
  exact⟨hb.cell 0,hb.cell 1,hb.cell 2,hb.cell 3⟩
 cases sl
 all_goals
  go_enter Tryz.func15,Tryz.ntmps15
  go_wp2_with (first | (go_at_call 20;refine(HU _).mono ?_;rintro _ w1 ⟨rfl,hb1⟩;obtain⟨x0,x1,x2,x3⟩:=HB.out w1 hb1;have hbz:Below w.heap.size w w1:=kqt kqx hb1) | (go_at_call 14;refine(HN _).mono ?_;rintro _ w2 ⟨rfl,rfl⟩))
  all_goals
   go_ret
   refine⟨?_,hbz⟩
   rw[HS.out]
   try simp[*]
   try (rw[Bool.eq_iff_iff];simp)
theorem rsFits_6 (h0:op=6)(hR:R=if op=0 then decide (ty.toList=[]) && (decide (ut.toList=[]) && decide (ui.toList=[]))
 else if op=1∨op=2 then decide (ty.toList=[]) && (u == 0)
 else if op=3 then(n == 0) && (decide (ut.toList=[]) && decide (ui.toList=[]))
 else if op=4 then(n == 0) && (u == 0)
 else if op=5∨op=6 then sl && (decide (ty.toList=[]) && (decide (ut.toList=[]) && decide (ui.toList=[])))
 else false)
 (HN:∀W,Calls Tryz.prog 14 #[.string ty] W fun e w'=>e= .returned (.int .i64 n)∧w'=W)
 (HU:∀W,Calls Tryz.prog 20 #[.agg #[.string ut,.string ui]] W fun e w'=>e= .returned (.int .i64 u)∧Below W.heap.size W w'):
 Calls Tryz.prog 15 #[.agg #[.int .i64 op,.string ty,.string ut,.string ui],.bool sl] w fun e w'=>e= .returned (.bool R)∧Below w.heap.size w w':=by
 subst h0
 have HS:Hid (R=(sl && (decide (ty.toList=[]) && (decide (ut.toList=[]) && decide (ui.toList=[]))))):=by show _=_;rw[hR];simp
 clear hR
 have HB:Hid (∀w',Below (w.alloc (.cells #[.int .i64 6,.string ty,.string ut,.string ui] 25)).heap.size (w.alloc (.cells #[.int .i64 6,.string ty,.string ut,.string ui] 25)) w'→w'.cell? ⟨w.heap.size,0,none⟩=some (.int .i64 6)∧w'.cell? ⟨w.heap.size,1,none⟩=some (.string ty)∧w'.cell? ⟨w.heap.size,2,none⟩=some (.string ut)∧w'.cell? ⟨w.heap.size,3,none⟩=some (.string ui)):=fun w' hk=>by
  have hb:=(Blk.new w (B:=w.heap.size) #[.int .i64 6,.string ty,.string ut,.string ui] 25 rfl).up hk
  exact⟨hb.cell 0,hb.cell 1,hb.cell 2,hb.cell 3⟩
 cases sl
 all_goals
  go_enter Tryz.func15,Tryz.ntmps15
  go_wp2_with (first | (go_at_call 20;refine(HU _).mono ?_;rintro _ w1 ⟨rfl,hb1⟩;obtain⟨x0,x1,x2,x3⟩:=HB.out w1 hb1;have hbz:Below w.heap.size w w1:=kqt kqx hb1) | (go_at_call 14;refine(HN _).mono ?_;rintro _ w2 ⟨rfl,rfl⟩))
  all_goals
   go_ret
   refine⟨?_,hbz⟩
   rw[HS.out]
   try simp[*]
   try (rw[Bool.eq_iff_iff];simp)
theorem rsFits_7 (h0:op≠0∧op≠1∧op≠2∧op≠3∧op≠4∧op≠5∧op≠6)(hR:R=if op=0 then decide (ty.toList=[]) && (decide (ut.toList=[]) && decide (ui.toList=[]))
 else if op=1∨op=2 then decide (ty.toList=[]) && (u == 0)
 else if op=3 then(n == 0) && (decide (ut.toList=[]) && decide (ui.toList=[]))
 else if op=4 then(n == 0) && (u == 0)
 else if op=5∨op=6 then sl && (decide (ty.toList=[]) && (decide (ut.toList=[]) && decide (ui.toList=[])))
 else false)
 (HN:∀W,Calls Tryz.prog 14 #[.string ty] W fun e w'=>e= .returned (.int .i64 n)∧w'=W)
 (HU:∀W,Calls Tryz.prog 20 #[.agg #[.string ut,.string ui]] W fun e w'=>e= .returned (.int .i64 u)∧Below W.heap.size W w'):
 Calls Tryz.prog 15 #[.agg #[.int .i64 op,.string ty,.string ut,.string ui],.bool sl] w fun e w'=>e= .returned (.bool R)∧Below w.heap.size w w':=by
 obtain⟨n0,n1,n2,n3,n4,n5,n6⟩:=h0
 have b0:(op == 0)=false:=by rw[beq_eq_false_iff_ne];exact n0
 have b1:(op == 1)=false:=by rw[beq_eq_false_iff_ne];exact n1
 have b2:(op == 2)=false:=by rw[beq_eq_false_iff_ne];exact n2
 have b3:(op == 3)=false:=by rw[beq_eq_false_iff_ne];exact n3
 have b4:(op == 4)=false:=by rw[beq_eq_false_iff_ne];exact n4
 have b5:(op == 5)=false:=by rw[beq_eq_false_iff_ne];exact n5
 have b6:(op == 6)=false:=by rw[beq_eq_false_iff_ne];exact n6
 have HS:Hid (R=false):=by show _=_;rw[hR,if_neg n0,if_neg (by omega),if_neg n3,if_neg n4,if_neg (by omega)]
 clear hR n0 n1 n2 n3 n4 n5 n6
 have HB:Hid (∀w',Below (w.alloc (.cells #[.int .i64 op,.string ty,.string ut,.string ui] 25)).heap.size (w.alloc (.cells #[.int .i64 op,.string ty,.string ut,.string ui] 25)) w'→w'.cell? ⟨w.heap.size,0,none⟩=some (.int .i64 op)∧w'.cell? ⟨w.heap.size,1,none⟩=some (.string ty)∧w'.cell? ⟨w.heap.size,2,none⟩=some (.string ut)∧w'.cell? ⟨w.heap.size,3,none⟩=some (.string ui)):=fun w' hk=>by
  have hb:=(Blk.new w (B:=w.heap.size) #[.int .i64 op,.string ty,.string ut,.string ui] 25 rfl).up hk
  exact⟨hb.cell 0,hb.cell 1,hb.cell 2,hb.cell 3⟩
 go_enter Tryz.func15,Tryz.ntmps15
 go_wp2_with (first | (go_at_call 20;refine(HU _).mono ?_;rintro _ w1 ⟨rfl,hb1⟩;obtain⟨x0,x1,x2,x3⟩:=HB.out w1 hb1;have hbz:Below w.heap.size w w1:=kqt kqx hb1) | (go_at_call 14;refine(HN _).mono ?_;rintro _ w2 ⟨rfl,rfl⟩))
 all_goals
  go_ret
  refine⟨?_,hbz⟩
  rw[HS.out]
  try simp[*]
  try (rw[Bool.eq_iff_iff];simp)
end
theorem scopeFits_any (s:Sco)(sl:Bool)(w:World)(hs:ScoOk s):
 Calls Tryz.prog 15 #[.agg #[.int .i64 s.op,.string s.ty,.string s.u.t,.string s.u.i],.bool sl] w fun e w'=>e= .returned (.bool (scOk sl s))∧Below w.heap.size w w':=by
 obtain⟨op,ty,⟨ut,ui⟩⟩:=s
 have HN:=fun W=>nameFault_any ty W hs.ty
 have HU:=fun W=>uidFault_any ut ui W hs.u.1 hs.u.2
 have hR:=scOk_as sl op ty ut ui
 unfold okN okU uf at hR
 by_cases h0:op=0
 · exact rsFits_0 op ty ut ui sl w _ _ _ h0 hR HN HU
 by_cases h1:op=1
 · exact rsFits_1 op ty ut ui sl w _ _ _ h1 hR HN HU
 by_cases h2:op=2
 · exact rsFits_2 op ty ut ui sl w _ _ _ h2 hR HN HU
 by_cases h3:op=3
 · exact rsFits_3 op ty ut ui sl w _ _ _ h3 hR HN HU
 by_cases h4:op=4
 · exact rsFits_4 op ty ut ui sl w _ _ _ h4 hR HN HU
 by_cases h5:op=5
 · exact rsFits_5 op ty ut ui sl w _ _ _ h5 hR HN HU
 by_cases h6:op=6
 · exact rsFits_6 op ty ut ui sl w _ _ _ h6 hR HN HU
 exact rsFits_7 op ty ut ui sl w _ _ _ ⟨h0,h1,h2,h3,h4,h5,h6⟩ hR HN HU
theorem ex_varP {x:Nd}(h:exOk x=true)(h8:x.op=8):varOk x.s.data.toList=true:=by
 unfold exOk at h
 rw[if_neg (by omega)]at h
 split at h
 · cases h
 · simp only[Bool.and_eq_true,beq_iff_eq]at h
   exact h.2
theorem vars_full {e:List Nd}(h:xfault e=0){w:World}{p:Option Addr}(hv:NL w p e):∀z∈nms e,z.data.toList≠[]∧z.size≤maxLen:=by
 intro z hz
 obtain⟨x,hx,h8,rfl⟩:=mem_vars.1 (mem_nms.1 hz)
 refine⟨fun e2=>?_,(hv.wfs x hx).1⟩
 have h1:=ex_varP (xfault_all h x hx) h8
 rw[e2]at h1
 revert h1
 decide
theorem policyFault_any (p:Po)(pc:Option Addr)(cc:Nat)(w:World)(h:PoA w p pc cc):
 Calls Tryz.prog 6 #[poV p pc cc] w fun e w'=>e= .returned (.int .i64 (pof p))∧Below w.heap.size w w':=by
 obtain⟨V,hV⟩:∃V,V=w.alloc (.cells (poC p pc cc) 28):=⟨_,rfl⟩
 have hbV:Below w.heap.size w V:=by rw[hV];exact kqx
 have HBk:Hid (∀w',Below V.heap.size V w'→Blk w' w.heap.size (poC p pc cc) 28):=fun w' hk=>by
  have hb:Blk V w.heap.size (poC p pc cc) 28:=by rw[hV];exact Blk.new w _ _ rfl
  exact hb.up hk
 have HC:=nameFault_any p.nm V h.nm
 have HPA:Hid (PoA V p pc cc):=h.up hbV
 have H0:=fun W=>scopeFits_any p.who true W h.who
 have H1:=fun W=>scopeFits_any p.act false W h.act
 have H2:=fun W=>scopeFits_any p.what true W h.what
 clear h
 have HX:=po_cells (HBk.out V (Below.refl _ _))
 obtain⟨x0,x1,x2,x3,x4,x5,x6,x7,x8,x9,x10,x11,x12,x13,x14⟩:=HX
 unfold poC at hV
 unfold poV
 by_cases hn:nfault p.nm.data.toList=0
 · have HF0:Hid (scOk true p.who=false→pof p=1):=fun e=>pof_side hn (k:=0) (by omega) e
   have HF1:Hid (scOk false p.act=false→pof p=1):=fun e=>pof_side hn (k:=1) (by omega) e
   have HF2:Hid (scOk true p.what=false→pof p=1):=fun e=>pof_side hn (k:=2) (by omega) e
   have HF3:Hid (scOk true p.who=true→scOk false p.act=true→scOk true p.what=true→pof p=if 4<p.cs.length then 4 else csf p.cs):=fun e0 e1 e2=>pof_rest hn (fun k hk=>by
    have hc:k=0∨k=1∨k=2:=by omega
    rcases hc with rfl | rfl | rfl
    · exact e0
    · exact e1
    · exact e2)
   rw[hn]at HC
   clear hn
   cases e0:scOk true p.who
   · have HP:Hid (pof p=1):=HF0.out e0
     rw[e0]at H0
     clear HF0 HF1 HF2 HF3 e0 H1 H2 HPA
     go_enter Tryz.func6,Tryz.ntmps6
     go_wp2_with fail
     rw[←hV]
     refine HC.mono ?_
     rintro _ w1 ⟨rfl,rfl⟩
     clear hV
     go_wp2_with fail
     refine(H0 _).mono ?_
     rintro _ w2 ⟨rfl,hb2⟩
     go_wp2
     go_ret
     exact⟨by rw[HP.out];rfl,kqt hbV hb2⟩
   · rw[e0]at H0
     cases e1:scOk false p.act
     · have HP:Hid (pof p=1):=HF1.out e1
       rw[e1]at H1
       clear HF0 HF1 HF2 HF3 e0 e1 H2 HPA
       go_enter Tryz.func6,Tryz.ntmps6
       go_wp2_with fail
       rw[←hV]
       refine HC.mono ?_
       rintro _ w1 ⟨rfl,rfl⟩
       clear hV
       go_wp2_with fail
       refine(H0 _).mono ?_
       rintro _ w2 ⟨rfl,hb2⟩
       clear x0 x1 x2 x3 x4 x5 x6 x7 x8 x9 x10 x11 x12 x13 x14 H0
       obtain⟨x0,x1,x2,x3,x4,x5,x6,x7,x8,x9,x10,x11,x12,x13,x14⟩:=po_cells (HBk.out w2 hb2)
       go_wp2_with fail
       refine(H1 _).mono ?_
       rintro _ w3 ⟨rfl,hb3⟩
       go_wp2
       go_ret
       exact⟨by rw[HP.out];rfl,kqt hbV (kqt hb2 hb3)⟩
     · rw[e1]at H1
       cases e2:scOk true p.what
       · have HP:Hid (pof p=1):=HF2.out e2
         rw[e2]at H2
         clear HF0 HF1 HF2 HF3 e0 e1 e2 HPA
         go_enter Tryz.func6,Tryz.ntmps6
         go_wp2_with fail
         rw[←hV]
         refine HC.mono ?_
         rintro _ w1 ⟨rfl,rfl⟩
         clear hV
         go_wp2_with fail
         refine(H0 _).mono ?_
         rintro _ w2 ⟨rfl,hb2⟩
         clear x0 x1 x2 x3 x4 x5 x6 x7 x8 x9 x10 x11 x12 x13 x14 H0
         obtain⟨x0,x1,x2,x3,x4,x5,x6,x7,x8,x9,x10,x11,x12,x13,x14⟩:=po_cells (HBk.out w2 hb2)
         go_wp2_with fail
         refine(H1 _).mono ?_
         rintro _ w3 ⟨rfl,hb3'⟩
         have hb3:=kqt hb2 hb3'
         clear x0 x1 x2 x3 x4 x5 x6 x7 x8 x9 x10 x11 x12 x13 x14 H1 hb3'
         obtain⟨x0,x1,x2,x3,x4,x5,x6,x7,x8,x9,x10,x11,x12,x13,x14⟩:=po_cells (HBk.out w3 hb3)
         go_wp2_with fail
         refine(H2 _).mono ?_
         rintro _ w4 ⟨rfl,hb4⟩
         go_wp2
         go_ret
         exact⟨by rw[HP.out];rfl,kqt hbV (kqt hb3 hb4)⟩
       · have HP:Hid (pof p=if 4<p.cs.length then 4 else csf p.cs):=HF3.out e0 e1 e2
         rw[e2]at H2
         clear HF0 HF1 HF2 HF3 e0 e1 e2
         go_enter Tryz.func6,Tryz.ntmps6
         go_wp2_with fail
         rw[←hV]
         refine HC.mono ?_
         rintro _ w1 ⟨rfl,rfl⟩
         clear hV
         go_wp2_with fail
         refine(H0 _).mono ?_
         rintro _ w2 ⟨rfl,hb2⟩
         clear x0 x1 x2 x3 x4 x5 x6 x7 x8 x9 x10 x11 x12 x13 x14 H0
         obtain⟨x0,x1,x2,x3,x4,x5,x6,x7,x8,x9,x10,x11,x12,x13,x14⟩:=po_cells (HBk.out w2 hb2)
         go_wp2_with fail
         refine(H1 _).mono ?_
         rintro _ w3 ⟨rfl,hb3'⟩
         have hb3:=kqt hb2 hb3'
         clear x0 x1 x2 x3 x4 x5 x6 x7 x8 x9 x10 x11 x12 x13 x14 H1 hb3'
         obtain⟨x0,x1,x2,x3,x4,x5,x6,x7,x8,x9,x10,x11,x12,x13,x14⟩:=po_cells (HBk.out w3 hb3)
         go_wp2_with fail
         refine(H2 _).mono ?_
         rintro _ w4 ⟨rfl,hb4'⟩
         have hb4:=kqt hb3 hb4'
         clear x0 x1 x2 x3 x4 x5 x6 x7 x8 x9 x10 x11 x12 x13 x14 H2 hb4' hb2 hb3
         obtain⟨x0,x1,x2,x3,x4,x5,x6,x7,x8,x9,x10,x11,x12,x13,x14⟩:=po_cells (HBk.out w4 hb4)
         clear x0 x1 x2 x3 x4 x5 x6 x7 x8 x9 x10 x11 x12 x13
         have HBr:Hid (∀w',Below w4.heap.size w4 w'→w'.cell? ⟨w.heap.size,14,none⟩=some (.slice pc p.cs.length cc)):=fun w' hk=>by
          obtain⟨_,_,_,_,_,_,_,_,_,_,_,_,_,_,x14⟩:=po_cells (HBk.out w' (kqt hb4 hk))
          exact x14
         have HPR:Hid (PoA w4 p pc cc):=HPA.out.up hb4
         have hb04:Below w.heap.size w w4:=kqt hbV hb4
         clear HPA HBk hb4 hbV
         by_cases h4:4<p.cs.length
         · have h4':(4:Int)<(p.cs.length:Int):=by omega
           have HP2:Hid (pof p=4):=by show _=_;rw[HP.out,if_pos h4]
           clear h4
           go_wp2
           go_ret
           exact⟨by rw[HP2.out];rfl,hb04⟩
         · have h4':¬(4:Int)<(p.cs.length:Int):=by omega
           have HP2:Hid (pof p=csf p.cs):=by show _=_;rw[HP.out,if_neg h4]
           have h44:p.cs.length≤4:=by omega
           clear h4 HP
           rename World=>wO
           go_wp2
           go_loopw [4] (fun i w5=>∃k:Nat,k≤p.cs.length∧i= .int .i64 k∧Hid (csf p.cs=csf (p.cs.drop k))∧Below wO.heap.size wO w5) (fun i _=>p.cs.length-(intOf i).toNat)
           case atStart=>exact⟨0,Nat.zero_le _,rfl,rfl,Below.refl _ _⟩
           case round=>
            obtain⟨k,hk2,rfl,HA,hb⟩:=hrel
            have z14:=HBr.out wr hb
            by_cases hlt:k<p.cs.length
            · have i2:(k:Int)<(p.cs.length:Int):=by omega
              obtain⟨bb,off,pe,ce,hpc,hbb,hak,z0,z1⟩:=(HPR.out.cl.up hb).at hlt
              have HNX:Hid (csf (p.cs.drop k)=if cdf p.cs[k]=0 then csf (p.cs.drop (k+1))else cdf p.cs[k]):=csf_next hlt
              have HM:=refFault_any p.cs[k].ex pe ce wr hak.nl (Nat.le_trans hak.le hak.cm)
              have HCE:Hid (∀w',Below wr.heap.size wr w'→w'.cell? ⟨bb,off+k*2+1,none⟩=some (.slice pe p.cs[k].ex.length ce)∧w'.cell? ⟨w.heap.size,14,none⟩=some (.slice (some ⟨bb,off,none⟩) p.cs.length cc)):=fun w' hk'=>⟨(hk'.cell (p:=⟨bb,off+k*2+1,none⟩) hbb).trans z1,by rw[←hpc];exact HBr.out w' (kqt hb hk')⟩
              have HAK:Hid (AK wr p.cs[k].ex pe ce):=hak
              subst hpc
              unfold cdf at HNX
              generalize p.cs[k]=c at *
              clear hak
              by_cases hx:xfault c.ex=0
              · rw[hx]at HM
                have hfull:=vars_full hx HAK.out.nl
                have HNM:=fun W (hW:Below wr.heap.size wr W)=>refNames_any c.ex pe ce W (HAK.out.up hW).nl (xfault_zero hx).1 (fun z hz=>(hfull z (mem_nms.2 hz)).1) (fun z hz=>(hfull z (mem_nms.2 hz)).2)
                have HNX2:Hid (csf (p.cs.drop k)=if (nms c.ex).any isQ=true then 1 else csf (p.cs.drop (k+1))):=by
                 show _=_
                 rw[HNX.out,if_pos hx]
                 cases (nms c.ex).any isQ<;>rfl
                have HFU:Hid (∀z∈nms c.ex,z.data.toList≠[]∧z.size≤maxLen):=hfull
                have HL2:Hid ((nms c.ex).length≤200):=Nat.le_trans (nms_length _) (xfault_zero hx).1
                clear hx hfull HNX
                generalize nms c.ex=l at *
                go_wp2_with fail
                refine HM.mono ?_
                rintro _ w6 ⟨rfl,hb6⟩
                obtain⟨y1,y14⟩:=HCE.out w6 hb6
                go_wp2_with fail
                refine(HNM _ hb6).mono ?_
                rintro _ w7 ⟨⟨q7,c7,rfl,htl7,_⟩,hb7⟩
                have hb7':=kqt hb6 hb7
                have hlm:l.length≤200:=HL2.out
                clear HM HNM y1 y14
                rename World=>wI
                go_wp2
                go_loopw [6] (fun i w8=>∃j:Nat,j≤l.length∧i= .int .i64 j∧Hid ((l.take j).any isQ=false)∧w8=wI) (fun i _=>l.length-(intOf i).toNat)
                case atStart=>exact⟨0,Nat.zero_le _,rfl,by simp[Hid],rfl⟩
                case round=>
                 obtain⟨j,hj,rfl,HJ,rfl⟩:=hrel
                 by_cases hjl:j<l.length
                 · have i3:(j:Int)<(l.length:Int):=by omega
                   obtain⟨b3,o3,hq7,hb3,s0⟩:=htl7.at hjl
                   subst hq7
                   obtain⟨f1,f2⟩:=HFU.out _ (List.getElem_mem hjl)
                   have HN3:Hid ((l.take (j+1)).any isQ=((l.take j).any isQ || isQ l[j])):=anyq_next hjl isQ
                   have HH3:Hid (isQ l[j]=true→l.any isQ=true):=fun e=>anyq_hit hjl e
                   generalize l[j]=z at *
                   have hzs:0<z.size:=by
                    cases e:z.data.toList with
                    | nil=>exact absurd e f1
                    | cons a r=>have:=congrArg List.length e;simp at this;omega
                   have hzs':(0:Int)<(z.size:Int):=by omega
                   have HQB:Hid (isQ z=true↔z[0].toNat=63):=by
                    show _↔_
                    unfold isQ
                    rw[decide_eq_true_iff,List.head?_eq_getElem?]
                    have:z.data.toList[0]? =some z[0]:=by simp[ByteArray.getElem_eq_getElem_data,hzs]
                    rw[this]
                    simp
                    exact⟨fun h=>by rw[h];rfl,fun h=>UInt8.toNat_inj.1 h⟩
                   clear f1
                   by_cases hq:isQ z=true
                   · have hb63:((z[0].toNat:Int) == 63)=true:=by have:=HQB.out.1 hq;simp[this]
                     have HP3:Hid (pof p=1):=by show _=_;rw[HP2.out,HA.out,HNX2.out,HH3.out hq];rfl
                     clear hq HQB HN3 HH3 HNX2
                     go_wp2
                     go_ret
                     exact⟨by rw[HP3.out];rfl,kqt hb04 (kqt hb hb7')⟩
                   · have hb63:((z[0].toNat:Int) == 63)=false:=by
                      rw[beq_eq_false_iff_ne]
                      intro e
                      exact hq (HQB.out.2 (by omega))
                     have HJ2:Hid ((l.take (j+1)).any isQ=false):=by show _=_;rw[HN3.out,HJ.out];simpa using hq
                     clear hq HQB HN3 HH3 HJ
                     go_wp2
                     go_roundw
                     case rel=>exact⟨j+1,by omega,by go_num,HJ2,trivial⟩
                     case measure=>simp[intOf];omega
                 · have i3:¬(j:Int)<(l.length:Int):=by omega
                   have HQ:Hid (l.any isQ=false):=by
                    have:=HJ.out
                    rw[List.take_of_length_le (by omega)]at this
                    exact this
                   have HA2:Hid (csf p.cs=csf (p.cs.drop (k+1))):=by show _=_;rw[HA.out,HNX2.out,HQ.out];rfl
                   go_wp2
                   go_roundw
                   case rel=>exact⟨k+1,by omega,by go_num,HA2,kqt hb hb7'⟩
                   case measure=>simp[intOf];omega
              · have HP3:Hid (pof p=xfault c.ex):=by show _=_;rw[HP2.out,HA.out,HNX.out,if_neg hx,if_neg hx]
                have hx0:(xfault c.ex == 0)=false:=by rw[beq_eq_false_iff_ne];exact hx
                generalize xfault c.ex=n at *
                clear HNX HA hx
                go_wp2_with fail
                refine HM.mono ?_
                rintro _ w6 ⟨rfl,hb6⟩
                go_wp2
                go_ret
                exact⟨by rw[HP3.out];rfl,kqt hb04 (kqt hb hb6)⟩
            · have i2:¬(k:Int)<(p.cs.length:Int):=by omega
              have HP3:Hid (pof p=0):=by show _=_;rw[HP2.out,HA.out,List.drop_eq_nil_of_le (by omega)];rfl
              go_wp2
              go_ret
              exact⟨by rw[HP3.out];rfl,kqt hb04 hb⟩
 · have HN:Hid (pof p=nfault p.nm.data.toList):=pof_name hn
   generalize nfault p.nm.data.toList=n at *
   clear HPA HBk H0 H1 H2
   go_enter Tryz.func6,Tryz.ntmps6
   go_wp2_with fail
   rw[←hV]
   refine HC.mono ?_
   rintro _ w1 ⟨rfl,rfl⟩
   clear hV
   go_wp2
   go_ret
   exact⟨by rw[HN.out];rfl,hbV⟩
def SlRet (p:Po)(w':World)(e:Ending):Prop:=
 if pof p=0 then ∃q c,e= .returned (.tuple #[.slice q (slL p).length c,.nilIface])∧TL w' q (slL p)∧(slL p).length≤c∧c≤maxLen else e= .returned (.tuple #[.slice none 0 0,eV (pof p)])
section
variable (p:Po) (pc:Option Addr) (cc:Nat) (w:World) (h:PoA w p pc cc)
include h
theorem slots_bad (hn:pof p≠0):
 Calls Tryz.prog 4 #[poV p pc cc] w fun e w'=>SlRet p w' e∧Below w.heap.size w w':=by
 obtain⟨V,hV⟩:∃V,V=w.alloc (.cells (poC p pc cc) 28):=⟨_,rfl⟩
 have hbV:Below w.heap.size w V:=by rw[hV];exact kqx
 have HBk:Hid (∀W,Below V.heap.size V W→Blk W w.heap.size (poC p pc cc) 28):=fun W hW=>by
  have hb:Blk V w.heap.size (poC p pc cc) 28:=by rw[hV];exact Blk.new w _ _ rfl
  exact hb.up hW
 have HC:=pcheck_any p pc cc V (h.up hbV)
 have HS1:=hasSlot_any p.who
 have HS2:=hasSlot_any p.what
 have HR:Hid (∀W,SlRet p W (.returned (.tuple #[.slice none 0 0,.iface 35 (.int .i64 (pof p))]))):=fun W=>by
  show SlRet _ _ _
  unfold SlRet
  rw[if_neg hn,eV_not hn]
 rw[eV_not hn]at HC
 generalize pof p=n at *
 clear hn h HS1 HS2
 unfold poC at hV
 unfold poV at *
 try unfold scV at *
 go_enter Tryz.func4,Tryz.ntmps4
 go_wp2_with fail
 rw[←hV]
 clear hV
 refine HC.mono ?_
 rintro _ w1 ⟨rfl,hb1⟩
 clear HC
 go_wp2
 go_ret2
 exact⟨HR.out _,kqt hbV hb1⟩
theorem slots_00 (h0:pof p=0)(h1:hsl p.who=false)(h2:hsl p.what=false):
 Calls Tryz.prog 4 #[poV p pc cc] w fun e w'=>SlRet p w' e∧Below w.heap.size w w':=by
 obtain⟨V,hV⟩:∃V,V=w.alloc (.cells (poC p pc cc) 28):=⟨_,rfl⟩
 have hbV:Below w.heap.size w V:=by rw[hV];exact kqx
 have HBk:Hid (∀W,Below V.heap.size V W→Blk W w.heap.size (poC p pc cc) 28):=fun W hW=>by
  have hb:Blk V w.heap.size (poC p pc cc) 28:=by rw[hV];exact Blk.new w _ _ rfl
  exact hb.up hW
 have HC:=pcheck_any p pc cc V (h.up hbV)
 have HS1:=hasSlot_any p.who
 have HS2:=hasSlot_any p.what
 have HR:Hid (∀W q c,TL W q ([]:List ByteArray)→([]:List ByteArray).length≤c→c≤maxLen→SlRet p W (.returned (.tuple #[.slice q ([]:List ByteArray).length c,.nilIface]))):=fun W q c k1 k2 k3=>by
  have e:slL p=[]:=by unfold slL;rw[h1,h2];rfl
  show SlRet _ _ _
  unfold SlRet
  rw[if_pos h0,e]
  exact⟨q,c,rfl,k1,k2,k3⟩
 rw[eV_nil h0]at HC
 rw[h1]at HS1
 rw[h2]at HS2
 clear h0 h1 h2 h
 unfold poC at hV
 unfold poV at *
 try unfold scV at *
 go_enter Tryz.func4,Tryz.ntmps4
 go_wp2_with fail
 rw[←hV]
 clear hV
 refine HC.mono ?_
 rintro _ w1 ⟨rfl,hb1⟩
 clear HC
 have hB:=HBk.out w1 hb1
 obtain⟨x0,x1,x2,x3,x4,x5,x6,x7,x8,x9,x10,x11,x12,x13,x14⟩:=po_cells hB
 have hlt:w.heap.size<w1.heap.size:=hB.lt
 clear hB
 go_wp2_with fail
 refine(HS1 _).mono ?_
 rintro _ w2 ⟨rfl,hb2'⟩
 have hb2:Below V.heap.size V w2:=kqt hb1 hb2'
 clear HS1 hb2' hb1
 clear hlt x0 x1 x2 x3 x4 x5 x6 x7 x8 x9 x10 x11 x12 x13 x14
 have hB:=HBk.out w2 hb2
 obtain⟨x0,x1,x2,x3,x4,x5,x6,x7,x8,x9,x10,x11,x12,x13,x14⟩:=po_cells hB
 have hlt:w.heap.size<w2.heap.size:=hB.lt
 clear hB
 go_wp2_with fail
 refine(HS2 _).mono ?_
 rintro _ w4 ⟨rfl,hb4'⟩
 have hb4:Below V.heap.size V w4:=kqt hb2 hb4'
 clear HS2 hb4' HBk
 clear hlt x0 x1 x2 x3 x4 x5 x6 x7 x8 x9 x10 x11 x12 x13 x14
 have HT:Hid (TL w4 none ([]:List ByteArray)∧([]:List ByteArray).length≤0∧0≤maxLen):=⟨.inl rfl,Nat.le_refl _,Nat.zero_le _⟩
 go_wp2
 go_ret2
 exact⟨HR.out _ _ _ HT.out.1 HT.out.2.1 HT.out.2.2,kqt hbV hb4⟩
theorem slots_01 (h0:pof p=0)(h1:hsl p.who=false)(h2:hsl p.what=true):
 Calls Tryz.prog 4 #[poV p pc cc] w fun e w'=>SlRet p w' e∧Below w.heap.size w w':=by
 obtain⟨V,hV⟩:∃V,V=w.alloc (.cells (poC p pc cc) 28):=⟨_,rfl⟩
 have hbV:Below w.heap.size w V:=by rw[hV];exact kqx
 have HBk:Hid (∀W,Below V.heap.size V W→Blk W w.heap.size (poC p pc cc) 28):=fun W hW=>by
  have hb:Blk V w.heap.size (poC p pc cc) 28:=by rw[hV];exact Blk.new w _ _ rfl
  exact hb.up hW
 have HC:=pcheck_any p pc cc V (h.up hbV)
 have HS1:=hasSlot_any p.who
 have HS2:=hasSlot_any p.what
 have HR:Hid (∀W q c,TL W q ([sQr]:List ByteArray)→([sQr]:List ByteArray).length≤c→c≤maxLen→SlRet p W (.returned (.tuple #[.slice q ([sQr]:List ByteArray).length c,.nilIface]))):=fun W q c k1 k2 k3=>by
  have e:slL p=[sQr]:=by unfold slL;rw[h1,h2];rfl
  show SlRet _ _ _
  unfold SlRet
  rw[if_pos h0,e]
  exact⟨q,c,rfl,k1,k2,k3⟩
 rw[eV_nil h0]at HC
 rw[h1]at HS1
 rw[h2]at HS2
 clear h0 h1 h2 h
 unfold poC at hV
 unfold poV at *
 try unfold scV at *
 go_enter Tryz.func4,Tryz.ntmps4
 go_wp2_with fail
 rw[←hV]
 clear hV
 refine HC.mono ?_
 rintro _ w1 ⟨rfl,hb1⟩
 clear HC
 have hB:=HBk.out w1 hb1
 obtain⟨x0,x1,x2,x3,x4,x5,x6,x7,x8,x9,x10,x11,x12,x13,x14⟩:=po_cells hB
 have hlt:w.heap.size<w1.heap.size:=hB.lt
 clear hB
 go_wp2_with fail
 refine(HS1 _).mono ?_
 rintro _ w2 ⟨rfl,hb2'⟩
 have hb2:Below V.heap.size V w2:=kqt hb1 hb2'
 clear HS1 hb2' hb1
 clear hlt x0 x1 x2 x3 x4 x5 x6 x7 x8 x9 x10 x11 x12 x13 x14
 have hB:=HBk.out w2 hb2
 obtain⟨x0,x1,x2,x3,x4,x5,x6,x7,x8,x9,x10,x11,x12,x13,x14⟩:=po_cells hB
 have hlt:w.heap.size<w2.heap.size:=hB.lt
 clear hB
 go_wp2_with fail
 refine(HS2 _).mono ?_
 rintro _ w4 ⟨rfl,hb4'⟩
 have hb4:Below V.heap.size V w4:=kqt hb2 hb4'
 clear HS2 hb4' HBk
 clear hlt x0 x1 x2 x3 x4 x5 x6 x7 x8 x9 x10 x11 x12 x13 x14
 go_wp2_with (at_builtin;refine append_text w4 rfl (.tmp 20) (.tmp 21) rfl V.heap.size (.slice none 0 0) [] rfl (Row1.nil _ _ _) sQr rfl (by simp) hb4.size ?_;intro v5 w5 ho5 hk5;have hb5:Below V.heap.size V w5:=hb4.trans hk5.bel;have HO5:Hid (OT w5 V.heap.size v5 ([sQr]:List ByteArray)):=ho5;clear ho5 hk5;obtain⟨q,c,rfl,ht,hl1,hl2⟩:=HO5.out.texts;have HT:Hid (TL w5 q ([sQr]:List ByteArray)∧_∧_):=⟨ht,hl1,hl2⟩;clear ht hl1 hl2 HO5)
 go_ret2
 exact⟨HR.out _ _ _ HT.out.1 HT.out.2.1 HT.out.2.2,kqt hbV hb5⟩
theorem slots_10 (h0:pof p=0)(h1:hsl p.who=true)(h2:hsl p.what=false):
 Calls Tryz.prog 4 #[poV p pc cc] w fun e w'=>SlRet p w' e∧Below w.heap.size w w':=by
 obtain⟨V,hV⟩:∃V,V=w.alloc (.cells (poC p pc cc) 28):=⟨_,rfl⟩
 have hbV:Below w.heap.size w V:=by rw[hV];exact kqx
 have HBk:Hid (∀W,Below V.heap.size V W→Blk W w.heap.size (poC p pc cc) 28):=fun W hW=>by
  have hb:Blk V w.heap.size (poC p pc cc) 28:=by rw[hV];exact Blk.new w _ _ rfl
  exact hb.up hW
 have HC:=pcheck_any p pc cc V (h.up hbV)
 have HS1:=hasSlot_any p.who
 have HS2:=hasSlot_any p.what
 have HR:Hid (∀W q c,TL W q ([sQp]:List ByteArray)→([sQp]:List ByteArray).length≤c→c≤maxLen→SlRet p W (.returned (.tuple #[.slice q ([sQp]:List ByteArray).length c,.nilIface]))):=fun W q c k1 k2 k3=>by
  have e:slL p=[sQp]:=by unfold slL;rw[h1,h2];rfl
  show SlRet _ _ _
  unfold SlRet
  rw[if_pos h0,e]
  exact⟨q,c,rfl,k1,k2,k3⟩
 rw[eV_nil h0]at HC
 rw[h1]at HS1
 rw[h2]at HS2
 clear h0 h1 h2 h
 unfold poC at hV
 unfold poV at *
 try unfold scV at *
 go_enter Tryz.func4,Tryz.ntmps4
 go_wp2_with fail
 rw[←hV]
 clear hV
 refine HC.mono ?_
 rintro _ w1 ⟨rfl,hb1⟩
 clear HC
 have hB:=HBk.out w1 hb1
 obtain⟨x0,x1,x2,x3,x4,x5,x6,x7,x8,x9,x10,x11,x12,x13,x14⟩:=po_cells hB
 have hlt:w.heap.size<w1.heap.size:=hB.lt
 clear hB
 go_wp2_with fail
 refine(HS1 _).mono ?_
 rintro _ w2 ⟨rfl,hb2'⟩
 have hb2:Below V.heap.size V w2:=kqt hb1 hb2'
 clear HS1 hb2' hb1
 clear hlt x0 x1 x2 x3 x4 x5 x6 x7 x8 x9 x10 x11 x12 x13 x14
 go_wp2_with (at_builtin;refine append_text w2 rfl (.tmp 14) (.tmp 15) rfl V.heap.size (.slice none 0 0) [] rfl (Row1.nil _ _ _) sQp rfl (by simp) hb2.size ?_;intro v3 w3 ho3 hk3;have hb3:Below V.heap.size V w3:=hb2.trans hk3.bel;have HO3:Hid (OT w3 V.heap.size v3 [sQp]):=ho3;have hB:=HBk.out w3 hb3;obtain⟨x0,x1,x2,x3,x4,x5,x6,x7,x8,x9,x10,x11,x12,x13,x14⟩:=po_cells hB;have hlt:w.heap.size<w3.heap.size:=hB.lt;clear hB ho3 hk3)
 refine(HS2 _).mono ?_
 rintro _ w4 ⟨rfl,hb4'⟩
 have hb4:Below V.heap.size V w4:=kqt hb3 hb4'
 have HO4:Hid (OT w4 V.heap.size v3 [sQp]):=Row1.kept (e:=184) HO3.out (Kept.of_below hb4' hb3.size) (by decide)
 clear HO3
 clear HS2 hb4' HBk
 clear hlt x0 x1 x2 x3 x4 x5 x6 x7 x8 x9 x10 x11 x12 x13 x14
 obtain⟨q,c,rfl,ht,hl1,hl2⟩:=HO4.out.texts
 have HT:Hid (TL w4 q ([sQp]:List ByteArray)∧_∧_):=⟨ht,hl1,hl2⟩
 clear ht hl1 hl2 HO4
 go_wp2
 go_ret2
 exact⟨HR.out _ _ _ HT.out.1 HT.out.2.1 HT.out.2.2,kqt hbV hb4⟩
theorem slots_11 (h0:pof p=0)(h1:hsl p.who=true)(h2:hsl p.what=true):
 Calls Tryz.prog 4 #[poV p pc cc] w fun e w'=>SlRet p w' e∧Below w.heap.size w w':=by
 obtain⟨V,hV⟩:∃V,V=w.alloc (.cells (poC p pc cc) 28):=⟨_,rfl⟩
 have hbV:Below w.heap.size w V:=by rw[hV];exact kqx
 have HBk:Hid (∀W,Below V.heap.size V W→Blk W w.heap.size (poC p pc cc) 28):=fun W hW=>by
  have hb:Blk V w.heap.size (poC p pc cc) 28:=by rw[hV];exact Blk.new w _ _ rfl
  exact hb.up hW
 have HC:=pcheck_any p pc cc V (h.up hbV)
 have HS1:=hasSlot_any p.who
 have HS2:=hasSlot_any p.what
 have HR:Hid (∀W q c,TL W q ([sQp,sQr]:List ByteArray)→([sQp,sQr]:List ByteArray).length≤c→c≤maxLen→SlRet p W (.returned (.tuple #[.slice q ([sQp,sQr]:List ByteArray).length c,.nilIface]))):=fun W q c k1 k2 k3=>by
  have e:slL p=[sQp,sQr]:=by unfold slL;rw[h1,h2];rfl
  show SlRet _ _ _
  unfold SlRet
  rw[if_pos h0,e]
  exact⟨q,c,rfl,k1,k2,k3⟩
 rw[eV_nil h0]at HC
 rw[h1]at HS1
 rw[h2]at HS2
 clear h0 h1 h2 h
 unfold poC at hV
 unfold poV at *
 try unfold scV at *
 go_enter Tryz.func4,Tryz.ntmps4
 go_wp2_with fail
 rw[←hV]
 clear hV
 refine HC.mono ?_
 rintro _ w1 ⟨rfl,hb1⟩
 clear HC
 have hB:=HBk.out w1 hb1
 obtain⟨x0,x1,x2,x3,x4,x5,x6,x7,x8,x9,x10,x11,x12,x13,x14⟩:=po_cells hB
 have hlt:w.heap.size<w1.heap.size:=hB.lt
 clear hB
 go_wp2_with fail
 refine(HS1 _).mono ?_
 rintro _ w2 ⟨rfl,hb2'⟩
 have hb2:Below V.heap.size V w2:=kqt hb1 hb2'
 clear HS1 hb2' hb1
 clear hlt x0 x1 x2 x3 x4 x5 x6 x7 x8 x9 x10 x11 x12 x13 x14
 go_wp2_with (at_builtin;refine append_text w2 rfl (.tmp 14) (.tmp 15) rfl V.heap.size (.slice none 0 0) [] rfl (Row1.nil _ _ _) sQp rfl (by simp) hb2.size ?_;intro v3 w3 ho3 hk3;have hb3:Below V.heap.size V w3:=hb2.trans hk3.bel;have HO3:Hid (OT w3 V.heap.size v3 [sQp]):=ho3;have hB:=HBk.out w3 hb3;obtain⟨x0,x1,x2,x3,x4,x5,x6,x7,x8,x9,x10,x11,x12,x13,x14⟩:=po_cells hB;have hlt:w.heap.size<w3.heap.size:=hB.lt;clear hB ho3 hk3)
 refine(HS2 _).mono ?_
 rintro _ w4 ⟨rfl,hb4'⟩
 have hb4:Below V.heap.size V w4:=kqt hb3 hb4'
 have HO4:Hid (OT w4 V.heap.size v3 [sQp]):=Row1.kept (e:=184) HO3.out (Kept.of_below hb4' hb3.size) (by decide)
 clear HO3
 clear HS2 hb4' HBk
 clear hlt x0 x1 x2 x3 x4 x5 x6 x7 x8 x9 x10 x11 x12 x13 x14
 go_wp2_with (at_builtin;refine append_text w4 rfl (.tmp 20) (.tmp 21) rfl V.heap.size v3 [sQp] rfl HO4.out sQr rfl (by simp) hb4.size ?_;intro v5 w5 ho5 hk5;have hb5:Below V.heap.size V w5:=hb4.trans hk5.bel;have HO5:Hid (OT w5 V.heap.size v5 ([sQp,sQr]:List ByteArray)):=ho5;clear ho5 hk5;obtain⟨q,c,rfl,ht,hl1,hl2⟩:=HO5.out.texts;have HT:Hid (TL w5 q ([sQp,sQr]:List ByteArray)∧_∧_):=⟨ht,hl1,hl2⟩;clear ht hl1 hl2 HO5)
 go_ret2
 exact⟨HR.out _ _ _ HT.out.1 HT.out.2.1 HT.out.2.2,kqt hbV hb5⟩
theorem slots_any:
 Calls Tryz.prog 4 #[poV p pc cc] w fun e w'=>SlRet p w' e∧Below w.heap.size w w':=by
 by_cases h0:pof p=0
 · cases h1:hsl p.who<;>cases h2:hsl p.what
   · exact slots_00 p pc cc w h h0 h1 h2
   · exact slots_01 p pc cc w h h0 h1 h2
   · exact slots_10 p pc cc w h h0 h1 h2
   · exact slots_11 p pc cc w h h0 h1 h2
 · exact slots_bad p pc cc w h h0
end
theorem slots_good {p:Po}{pc:Option Addr}{cc:Nat}{w:World}(h:PoA w p pc cc)(h0:pof p=0){L:List ByteArray}(hL:slL p=L):
 Calls Tryz.prog 4 #[poV p pc cc] w fun e w'=>(∃q c,e= .returned (.tuple #[.slice q L.length c,.nilIface])∧TL w' q L)∧Below w.heap.size w w':=by
 subst hL
 refine(slots_any p pc cc w h).mono ?_
 rintro e w' ⟨h1,h2⟩
 unfold SlRet at h1
 rw[if_pos h0]at h1
 obtain⟨q,c,h3,h4,_⟩:=h1
 exact⟨⟨q,c,h3,h4⟩,h2⟩
theorem slots_wrong {p:Po}{pc:Option Addr}{cc:Nat}{w:World}(h:PoA w p pc cc){n:Int}(h0:pof p=n)(hn:n≠0):
 Calls Tryz.prog 4 #[poV p pc cc] w fun e w'=>e= .returned (.tuple #[.slice none 0 0,.iface 35 (.int .i64 n)])∧Below w.heap.size w w':=by
 subst h0
 refine(slots_any p pc cc w h).mono ?_
 rintro e w' ⟨h1,h2⟩
 unfold SlRet at h1
 rw[if_neg hn,eV_not hn]at h1
 exact⟨h1,h2⟩
end Go.Proofs.YthhijecpookfhaaGreatDoor
