import Derived.Test.YtlnhaajjoplafaaGreatDoorT12
import Derived.Test.YtlnhaajjoplafaaGreatDoorT26
import Derived.Shelf.Abstract
import Derived.WalkKit
import Derived.OwnWalk
import Derived.Laws.AppendOwnNone
import Derived.Deep.Slices
import Derived.Test.YtlnhaajjoplafaaGreatDoorT11
set_option linter.unusedVariables false
set_option maxHeartbeats 12000000
namespace Go.Proofs.YtlnhaajjoplafaaGreatDoor
open Go.RowKit
set_option linter.unusedSimpArgs false
set_option maxRecDepth 100000
theorem pisSlot_any (s:ByteArray)(w:World)(hs:s.size≤maxLen):
 Calls Tryz.prog 42 #[.string s] w fun e w'=>e= .returned (.bool (isQ s))∧w'=w:=by
 have HP:=fun w=>hasPrefix_any s w hs
 have HR:Hid (isQ s=decide (s.data.toList.head? =some 63)):=rfl
 generalize decide (s.data.toList.head? =some 63)=b at *
 have HS:∀w,Calls Tryz.prog 67 #[.string s,.string ⟨#[63]⟩] w fun e w'=>e= .returned (.bool b)∧w'=w:=by
  intro w
  go_enter Tryz.func67,Tryz.ntmps67
  go_wp2_with fail
  refine(HP _).mono ?_
  rintro e w1 ⟨rfl,rfl⟩
  go_wp2
  go_ret
  exact⟨rfl,rfl⟩
 go_enter Tryz.func42,Tryz.ntmps42
 go_wp2_with fail
 refine(HS _).mono ?_
 rintro e w1 ⟨rfl,rfl⟩
 go_wp2
 go_ret
 exact⟨by rw[HR.out];rfl,rfl⟩
theorem anyq_next {vs:List ByteArray}{k:Nat}(h:k<vs.length)(p:ByteArray→Bool):(vs.take (k+1)).any p=((vs.take k).any p || p vs[k]):=by
 rw[List.take_succ_eq_append_getElem h,List.any_append];simp
theorem anyq_hit {vs:List ByteArray}{k:Nat}(h:k<vs.length){p:ByteArray→Bool}(hp:p vs[k]=true):vs.any p=true:=
 List.any_eq_true.2 ⟨_,List.getElem_mem h,hp⟩
theorem containsSlot_any (vs:List ByteArray)(p:Option Addr)(c:Nat)(w:World)(hv:TL w p vs)(hl:vs.length≤maxLen)(hz:∀s∈vs,s.size≤maxLen):
 Calls Tryz.prog 41 #[.slice p vs.length c,.func (.func 42) #[] #[]] w fun e w'=>e= .returned (.bool (vs.any isQ))∧w'=w:=by
 unfold maxLen at hl
 have H1:Calls Tryz.prog 66 #[.slice p vs.length c,.func (.func 42) #[] #[]] w fun e w'=>(∃n:Int,e= .returned (.int .i64 n)∧decide (0≤n)=vs.any isQ)∧w'=w:=by
  have eg:∀args w,(callFunc 42 args).run Tryz.prog w= .ok (.enter 42 args) w:=enters_of Tryz.func42 (by kernel_rfl) rfl
  go_enter Tryz.func66,Tryz.ntmps66
  go_wp2
  go_loopw [8] (fun i wr=>∃k:Nat,k≤vs.length∧i= .int .i64 k∧Hid ((vs.take k).any isQ=false)∧wr=w) (fun i _=>vs.length-(intOf i).toNat)
  case atStart=>exact⟨0,Nat.zero_le _,rfl,by simp[Hid],rfl⟩
  case round=>
   obtain⟨k,hk,rfl,HA,rfl⟩:=hrel
   by_cases hlt:k<vs.length
   · have i1:(k:Int)<(vs.length:Int):=by omega
     obtain⟨b,off,rfl,hbw,hcell⟩:=hv.at hlt
     have HN:Hid (_=_):=anyq_next hlt isQ
     have HH:Hid (_→_):=anyq_hit hlt (p:=isQ)
     have H1:=pisSlot_any vs[k] wr (hz _ (List.getElem_mem hlt))
     generalize vs[k]=v at *
     cases ha:isQ v
     · rw[ha]at H1
       have HA2:Hid ((vs.take (k+1)).any isQ=false):=by show _=_;rw[HN.out,HA.out,ha];rfl
       clear HN HH HA
       go_wp2_with (go_at_fn 42;refine H1.mono ?_;rintro e w1 ⟨rfl,rfl⟩)
       go_roundw
       case rel=>exact⟨k+1,by omega,by go_num,HA2,trivial⟩
       case measure=>simp[intOf];omega
     · rw[ha]at H1
       have HA2:Hid (vs.any isQ=true):=HH.out ha
       clear HN HH HA
       go_wp2_with (go_at_fn 42;refine H1.mono ?_;rintro e w1 ⟨rfl,rfl⟩)
       go_ret
       exact⟨⟨_,rfl,by rw[HA2.out];simp⟩,rfl⟩
   · have i1:¬(k:Int)<(vs.length:Int):=by omega
     have HA2:Hid (vs.any isQ=false):=by
      have:=HA.out
      rw[List.take_of_length_le (by omega)]at this
      exact this
     go_wp2
     go_ret
     exact⟨⟨_,rfl,by rw[HA2.out];decide⟩,rfl⟩
 go_enter Tryz.func41,Tryz.ntmps41
 go_wp2_with fail
 refine H1.mono ?_
 rintro e w1 ⟨⟨n,rfl,hn⟩,rfl⟩
 go_wp2
 go_ret
 exact⟨by rw[←hn];rfl,rfl⟩
theorem pcheckCond_any (c:Cnd)(pe:Option Addr)(ce:Nat)(w:World)(h:AK w c.ex pe ce):
 Calls Tryz.prog 25 #[cndV c pe ce] w fun e w'=>e= .returned (eV (cdf c))∧Below w.heap.size w w':=by
 obtain⟨un,ex⟩:=c
 unfold cndV cdf
 simp only at h ⊢
 obtain⟨V,hV⟩:∃V,V=w.alloc (.cells #[.bool un,.slice pe ex.length ce] 67):=⟨_,rfl⟩
 have hbV:Below w.heap.size w V:=by rw[hV];exact kqx
 have hN:=(h.up hbV).nl
 by_cases hx:xfault ex=0
 · rw[if_pos hx]
   have HC:=tvars_ok ex pe ce V hN hx
   have hnl:(nms ex).length≤maxLen:=Nat.le_trans (nms_length ex) (Nat.le_trans h.le h.cm)
   have hnz:∀s∈nms ex,s.size≤maxLen:=fun s hs=>by
    obtain⟨x,hx1,_,rfl⟩:=mem_vars.1 (mem_nms.1 hs)
    exact(hN.wfs x hx1).1
   have HA:=fun W p c (hv:TL W p (nms ex))=>containsSlot_any (nms ex) p c W hv hnl hnz
   have HE:Hid (∀b,(nms ex).any isQ=b→eV (if (nms ex).any isQ=true then 1 else 0)=if b=true then .iface 70 (.int .i64 1)else .nilIface):=by
    rintro b rfl
    cases (nms ex).any isQ<;>rfl
   generalize nms ex=l at *
   cases hb:l.any isQ
   · have HE2:Hid (_=_):=HE.out _ hb
     rw[hb]at HA
     clear h hN hx hnl hnz hb HE
     go_enter Tryz.func25,Tryz.ntmps25
     go_wp2_with fail
     rw[←hV]
     clear hV
     refine HC.mono ?_
     rintro _ w1 ⟨⟨q,cc,rfl,htl,_,_⟩,hb1⟩
     have HA2:=HA w1 q cc htl
     clear htl HA HC
     go_wp2_with fail
     refine HA2.mono ?_
     rintro _ w2 ⟨rfl,rfl⟩
     go_wp2
     go_ret
     exact⟨rfl,kqt hbV hb1⟩
   · have HE2:Hid (_=_):=HE.out _ hb
     rw[hb]at HA
     clear h hN hx hnl hnz hb HE
     go_enter Tryz.func25,Tryz.ntmps25
     go_wp2_with fail
     rw[←hV]
     clear hV
     refine HC.mono ?_
     rintro _ w1 ⟨⟨q,cc,rfl,htl,_,_⟩,hb1⟩
     have HA2:=HA w1 q cc htl
     clear htl HA HC
     go_wp2_with fail
     refine HA2.mono ?_
     rintro _ w2 ⟨rfl,rfl⟩
     go_wp2
     go_ret
     exact⟨rfl,kqt hbV hb1⟩
 · rw[if_neg hx]
   have HC:=tvars_bad ex pe ce V hN (Nat.le_trans h.le h.cm) hx
   rw[eV_not hx]at HC ⊢
   generalize xfault ex=n at *
   clear h hN hx
   go_enter Tryz.func25,Tryz.ntmps25
   go_wp2_with fail
   rw[←hV]
   clear hV
   refine HC.mono ?_
   rintro _ w1 ⟨rfl,hb1⟩
   go_wp2
   go_ret
   exact⟨rfl,kqt hbV hb1⟩
theorem eB_iff (s:ByteArray):s=eB↔s.toList=[]:=by
 rw[ByteArray.toList_eq]
 exact⟨fun h=>by rw[h];rfl,fun h=>bytes_inj (by rw[h];rfl)⟩
theorem eU_iff (t i:ByteArray):(⟨t,i⟩:Ui)=eU↔t.toList=[]∧i.toList=[]:=by
 rw[←eB_iff,←eB_iff]
 unfold eU
 rw[Ui.mk.injEq]
theorem scOk_as (b:Bool)(op:Int)(ty ut ui:ByteArray):scOk b ⟨op,ty,⟨ut,ui⟩⟩=if op=0 then decide (ty.toList=[]) && (decide (ut.toList=[]) && decide (ui.toList=[]))
 else if op=1∨op=2 then decide (ty.toList=[]) && okU ⟨ut,ui⟩
 else if op=3 then okN ty && (decide (ut.toList=[]) && decide (ui.toList=[]))
 else if op=4 then okN ty && okU ⟨ut,ui⟩
 else if op=5∨op=6 then b && (decide (ty.toList=[]) && (decide (ut.toList=[]) && decide (ui.toList=[])))
 else false:=by
 unfold scOk
 simp only[eB_iff,eU_iff,Bool.decide_and]
section
variable (op:Int) (ty ut ui v:ByteArray) (w:World) (R:Bool)
theorem psMay_0 (h0:op=0)(hR:R=scOk (decide (v≠sAct)) ⟨op,ty,⟨ut,ui⟩⟩)
 (HN:∀W,Calls Tryz.prog 39 #[.string ty] W fun e w'=>e= .returned (.bool (okN ty))∧Below W.heap.size W w')
 (HU:∀W,Calls Tryz.prog 38 #[.agg #[.string ut,.string ui]] W fun e w'=>e= .returned (.bool (okU ⟨ut,ui⟩))∧Below W.heap.size W w'):
 Calls Tryz.prog 24 #[sdV ⟨op,ty,⟨ut,ui⟩⟩ v] w fun e w'=>e= .returned (.bool R)∧Below w.heap.size w w':=by
 subst h0
 have HS:Hid (R=(decide (ty.toList=[]) && (decide (ut.toList=[]) && decide (ui.toList=[])))):=by show _=_;rw[hR,scOk_as];simp
 clear hR HN HU
 unfold sdV
 simp only
 go_enter Tryz.func24,Tryz.ntmps24
 go_wp2
 all_goals
  go_ret
  refine⟨?_,kqx⟩
  rw[HS.out]
  try simp[*]
  try (rw[Bool.eq_iff_iff];simp)
theorem psMay_1 (h0:op=1)(hR:R=scOk (decide (v≠sAct)) ⟨op,ty,⟨ut,ui⟩⟩)
 (HN:∀W,Calls Tryz.prog 39 #[.string ty] W fun e w'=>e= .returned (.bool (okN ty))∧Below W.heap.size W w')
 (HU:∀W,Calls Tryz.prog 38 #[.agg #[.string ut,.string ui]] W fun e w'=>e= .returned (.bool (okU ⟨ut,ui⟩))∧Below W.heap.size W w'):
 Calls Tryz.prog 24 #[sdV ⟨op,ty,⟨ut,ui⟩⟩ v] w fun e w'=>e= .returned (.bool R)∧Below w.heap.size w w':=by
 subst h0
 have HS:Hid (R=(decide (ty.toList=[]) && okU ⟨ut,ui⟩)):=by show _=_;rw[hR,scOk_as];simp
 clear hR
 generalize okU ⟨ut,ui⟩=bu at *
 unfold sdV
 simp only
 go_enter Tryz.func24,Tryz.ntmps24
 go_wp2_with (refine(HU _).mono ?_;rintro _ w1 ⟨rfl,hb1⟩;have hbz:Below w.heap.size w w1:=kqt kqx hb1)
 all_goals
  go_ret
  refine⟨?_,(by first | exact hbz | exact kqx)⟩
  rw[HS.out]
  try simp[*]
  try (rw[Bool.eq_iff_iff];simp)
theorem psMay_2 (h0:op=2)(hR:R=scOk (decide (v≠sAct)) ⟨op,ty,⟨ut,ui⟩⟩)
 (HN:∀W,Calls Tryz.prog 39 #[.string ty] W fun e w'=>e= .returned (.bool (okN ty))∧Below W.heap.size W w')
 (HU:∀W,Calls Tryz.prog 38 #[.agg #[.string ut,.string ui]] W fun e w'=>e= .returned (.bool (okU ⟨ut,ui⟩))∧Below W.heap.size W w'):
 Calls Tryz.prog 24 #[sdV ⟨op,ty,⟨ut,ui⟩⟩ v] w fun e w'=>e= .returned (.bool R)∧Below w.heap.size w w':=by
 subst h0
 have HS:Hid (R=(decide (ty.toList=[]) && okU ⟨ut,ui⟩)):=by show _=_;rw[hR,scOk_as];simp
 clear hR
 generalize okU ⟨ut,ui⟩=bu at *
 unfold sdV
 simp only
 go_enter Tryz.func24,Tryz.ntmps24
 go_wp2_with (refine(HU _).mono ?_;rintro _ w1 ⟨rfl,hb1⟩;have hbz:Below w.heap.size w w1:=kqt kqx hb1)
 all_goals
  go_ret
  refine⟨?_,(by first | exact hbz | exact kqx)⟩
  rw[HS.out]
  try simp[*]
  try (rw[Bool.eq_iff_iff];simp)
theorem psMay_3 (h0:op=3)(hR:R=scOk (decide (v≠sAct)) ⟨op,ty,⟨ut,ui⟩⟩)
 (HN:∀W,Calls Tryz.prog 39 #[.string ty] W fun e w'=>e= .returned (.bool (okN ty))∧Below W.heap.size W w')
 (HU:∀W,Calls Tryz.prog 38 #[.agg #[.string ut,.string ui]] W fun e w'=>e= .returned (.bool (okU ⟨ut,ui⟩))∧Below W.heap.size W w'):
 Calls Tryz.prog 24 #[sdV ⟨op,ty,⟨ut,ui⟩⟩ v] w fun e w'=>e= .returned (.bool R)∧Below w.heap.size w w':=by
 subst h0
 have HS:Hid (R=(okN ty && (decide (ut.toList=[]) && decide (ui.toList=[])))):=by show _=_;rw[hR,scOk_as];simp
 clear hR
 generalize okN ty=bn at *
 have HB:Hid (∀w',Below (w.alloc (.cells #[.int .i64 3,.string ty,.string ut,.string ui,.string v] 64)).heap.size (w.alloc (.cells #[.int .i64 3,.string ty,.string ut,.string ui,.string v] 64)) w'→w'.cell? ⟨w.heap.size,2,none⟩=some (.string ut)∧w'.cell? ⟨w.heap.size,3,none⟩=some (.string ui)):=fun w' hk=>by
  have hb:=(Blk.new w (B:=w.heap.size) #[.int .i64 3,.string ty,.string ut,.string ui,.string v] 64 rfl).up hk
  exact⟨hb.cell 2,hb.cell 3⟩
 unfold sdV
 simp only
 go_enter Tryz.func24,Tryz.ntmps24
 cases bn<;>
 (go_wp2_with (refine(HN _).mono ?_;rintro _ w1 ⟨rfl,hb1⟩;obtain⟨x2,x3⟩:=HB.out w1 hb1;have hbz:Below w.heap.size w w1:=kqt kqx hb1)
  all_goals
   go_ret
   refine⟨?_,hbz⟩
   rw[HS.out]
   try simp[*])
theorem psMay_4 (h0:op=4)(hR:R=scOk (decide (v≠sAct)) ⟨op,ty,⟨ut,ui⟩⟩)
 (HN:∀W,Calls Tryz.prog 39 #[.string ty] W fun e w'=>e= .returned (.bool (okN ty))∧Below W.heap.size W w')
 (HU:∀W,Calls Tryz.prog 38 #[.agg #[.string ut,.string ui]] W fun e w'=>e= .returned (.bool (okU ⟨ut,ui⟩))∧Below W.heap.size W w'):
 Calls Tryz.prog 24 #[sdV ⟨op,ty,⟨ut,ui⟩⟩ v] w fun e w'=>e= .returned (.bool R)∧Below w.heap.size w w':=by
 subst h0
 have HS:Hid (R=(okN ty && okU ⟨ut,ui⟩)):=by show _=_;rw[hR,scOk_as];simp
 clear hR
 generalize okU ⟨ut,ui⟩=bu at *
 generalize okN ty=bn at *
 have HB:Hid (∀w',Below (w.alloc (.cells #[.int .i64 4,.string ty,.string ut,.string ui,.string v] 64)).heap.size (w.alloc (.cells #[.int .i64 4,.string ty,.string ut,.string ui,.string v] 64)) w'→w'.cell? ⟨w.heap.size,2,none⟩=some (.string ut)∧w'.cell? ⟨w.heap.size,3,none⟩=some (.string ui)):=fun w' hk=>by
  have hb:=(Blk.new w (B:=w.heap.size) #[.int .i64 4,.string ty,.string ut,.string ui,.string v] 64 rfl).up hk
  exact⟨hb.cell 2,hb.cell 3⟩
 unfold sdV
 simp only
 go_enter Tryz.func24,Tryz.ntmps24
 cases bn<;>
 (go_wp2_with (first | (refine(HN _).mono ?_;rintro _ w1 ⟨rfl,hb1⟩;obtain⟨x2,x3⟩:=HB.out w1 hb1;have hbz:Below w.heap.size w w1:=kqt kqx hb1) | (refine(HU _).mono ?_;rintro _ w2 ⟨rfl,hb2⟩;have hby:Below w.heap.size w w2:=kqt hbz hb2))
  all_goals
   go_ret
   refine⟨?_,(by first | exact hby | exact hbz)⟩
   rw[HS.out]
   try simp[*])
theorem psMay_5 (h0:op=5)(hR:R=scOk (decide (v≠sAct)) ⟨op,ty,⟨ut,ui⟩⟩)
 (HN:∀W,Calls Tryz.prog 39 #[.string ty] W fun e w'=>e= .returned (.bool (okN ty))∧Below W.heap.size W w')
 (HU:∀W,Calls Tryz.prog 38 #[.agg #[.string ut,.string ui]] W fun e w'=>e= .returned (.bool (okU ⟨ut,ui⟩))∧Below W.heap.size W w'):
 Calls Tryz.prog 24 #[sdV ⟨op,ty,⟨ut,ui⟩⟩ v] w fun e w'=>e= .returned (.bool R)∧Below w.heap.size w w':=by
 subst h0
 have hvA:(v≠sAct)↔¬v.toList=[97,99,116,105,111,110]:=by
  rw[ByteArray.toList_eq]
  exact not_congr ⟨fun h=>by rw[h];rfl,fun h=>bytes_inj (by rw[h];rfl)⟩
 have HS:Hid (R=(decide (¬v.toList=[97,99,116,105,111,110]) && (decide (ty.toList=[]) && (decide (ut.toList=[]) && decide (ui.toList=[]))))):=by show _=_;rw[hR,scOk_as];simp only[hvA];simp
 clear hR HN HU hvA
 unfold sdV
 simp only
 go_enter Tryz.func24,Tryz.ntmps24
 go_wp2
 all_goals
  go_ret
  refine⟨?_,kqx⟩
  rw[HS.out]
  try simp[*]
  try (rw[Bool.eq_iff_iff];simp)
theorem psMay_6 (h0:op=6)(hR:R=scOk (decide (v≠sAct)) ⟨op,ty,⟨ut,ui⟩⟩)
 (HN:∀W,Calls Tryz.prog 39 #[.string ty] W fun e w'=>e= .returned (.bool (okN ty))∧Below W.heap.size W w')
 (HU:∀W,Calls Tryz.prog 38 #[.agg #[.string ut,.string ui]] W fun e w'=>e= .returned (.bool (okU ⟨ut,ui⟩))∧Below W.heap.size W w'):
 Calls Tryz.prog 24 #[sdV ⟨op,ty,⟨ut,ui⟩⟩ v] w fun e w'=>e= .returned (.bool R)∧Below w.heap.size w w':=by
 subst h0
 have hvA:(v≠sAct)↔¬v.toList=[97,99,116,105,111,110]:=by
  rw[ByteArray.toList_eq]
  exact not_congr ⟨fun h=>by rw[h];rfl,fun h=>bytes_inj (by rw[h];rfl)⟩
 have HS:Hid (R=(decide (¬v.toList=[97,99,116,105,111,110]) && (decide (ty.toList=[]) && (decide (ut.toList=[]) && decide (ui.toList=[]))))):=by show _=_;rw[hR,scOk_as];simp only[hvA];simp
 clear hR HN HU hvA
 unfold sdV
 simp only
 go_enter Tryz.func24,Tryz.ntmps24
 go_wp2
 all_goals
  go_ret
  refine⟨?_,kqx⟩
  rw[HS.out]
  try simp[*]
  try (rw[Bool.eq_iff_iff];simp)
theorem psMay_7 (h0:op≠0∧op≠1∧op≠2∧op≠3∧op≠4∧op≠5∧op≠6)(hR:R=scOk (decide (v≠sAct)) ⟨op,ty,⟨ut,ui⟩⟩)
 (HN:∀W,Calls Tryz.prog 39 #[.string ty] W fun e w'=>e= .returned (.bool (okN ty))∧Below W.heap.size W w')
 (HU:∀W,Calls Tryz.prog 38 #[.agg #[.string ut,.string ui]] W fun e w'=>e= .returned (.bool (okU ⟨ut,ui⟩))∧Below W.heap.size W w'):
 Calls Tryz.prog 24 #[sdV ⟨op,ty,⟨ut,ui⟩⟩ v] w fun e w'=>e= .returned (.bool R)∧Below w.heap.size w w':=by
 obtain⟨n0,n1,n2,n3,n4,n5,n6⟩:=h0
 have b0:(op == 0)=false:=by rw[beq_eq_false_iff_ne];exact n0
 have b1:(op == 1)=false:=by rw[beq_eq_false_iff_ne];exact n1
 have b2:(op == 2)=false:=by rw[beq_eq_false_iff_ne];exact n2
 have b3:(op == 3)=false:=by rw[beq_eq_false_iff_ne];exact n3
 have b4:(op == 4)=false:=by rw[beq_eq_false_iff_ne];exact n4
 have b5:(op == 5)=false:=by rw[beq_eq_false_iff_ne];exact n5
 have b6:(op == 6)=false:=by rw[beq_eq_false_iff_ne];exact n6
 have HS:Hid (R=false):=by show _=_;rw[hR,scOk_as,if_neg n0,if_neg (by omega),if_neg n3,if_neg n4,if_neg (by omega)]
 clear hR n0 n1 n2 n3 n4 n5 n6 HN HU
 unfold sdV
 simp only
 go_enter Tryz.func24,Tryz.ntmps24
 go_wp2
 all_goals
  go_ret
  refine⟨?_,kqx⟩
  rw[HS.out]
  try simp[*]
  try (rw[Bool.eq_iff_iff];simp)
end
theorem psMay_any (s:Sco)(v:ByteArray)(w:World)(hs:ScoOk s):
 Calls Tryz.prog 24 #[sdV s v] w fun e w'=>e= .returned (.bool (scOk (decide (v≠sAct)) s))∧Below w.heap.size w w':=by
 obtain⟨op,ty,⟨ut,ui⟩⟩:=s
 have HN:=fun W=>pisName_any ty W hs.ty
 have HU:=fun W=>pisUid_any ⟨ut,ui⟩ W hs.u
 by_cases h0:op=0
 · exact psMay_0 op ty ut ui v w _ h0 rfl HN HU
 by_cases h1:op=1
 · exact psMay_1 op ty ut ui v w _ h1 rfl HN HU
 by_cases h2:op=2
 · exact psMay_2 op ty ut ui v w _ h2 rfl HN HU
 by_cases h3:op=3
 · exact psMay_3 op ty ut ui v w _ h3 rfl HN HU
 by_cases h4:op=4
 · exact psMay_4 op ty ut ui v w _ h4 rfl HN HU
 by_cases h5:op=5
 · exact psMay_5 op ty ut ui v w _ h5 rfl HN HU
 by_cases h6:op=6
 · exact psMay_6 op ty ut ui v w _ h6 rfl HN HU
 exact psMay_7 op ty ut ui v w _ ⟨h0,h1,h2,h3,h4,h5,h6⟩ rfl HN HU
theorem csf_next {cs:List Cnd}{k:Nat}(h:k<cs.length):csf (cs.drop k)=if cdf cs[k]=0 then csf (cs.drop (k+1))else cdf cs[k]:=by
 rw[List.drop_eq_getElem_cons h];rfl
def sdOk (p:Po)(k:Nat):Bool:=if k=0 then scOk true p.who else if k=1 then scOk false p.act else scOk true p.what
def sdS (p:Po)(k:Nat):Sco:=if k=0 then p.who else if k=1 then p.act else p.what
def sdN (k:Nat):ByteArray:=if k=0 then sPrin else if k=1 then sAct else sRes
theorem sides_at {w:World}{b:Nat}{p:Po}(h:Blk w b (sidesC p) 64){k:Nat}(hk:k<3):
 w.cell? ⟨b,k*5,none⟩=some (.int .i64 (sdS p k).op)∧w.cell? ⟨b,k*5+1,none⟩=some (.string (sdS p k).ty)∧w.cell? ⟨b,k*5+2,none⟩=some (.string (sdS p k).u.t)∧w.cell? ⟨b,k*5+3,none⟩=some (.string (sdS p k).u.i)∧w.cell? ⟨b,k*5+4,none⟩=some (.string (sdN k)):=by
 have hc:k=0∨k=1∨k=2:=by omega
 rcases hc with rfl | rfl | rfl
 all_goals exact⟨h.cell _,h.cell _,h.cell _,h.cell _,h.cell _⟩
theorem sd_mayBe {p:Po}(h0:ScoOk p.who)(h1:ScoOk p.act)(h2:ScoOk p.what){k:Nat}(hk:k<3)(w:World):
 Calls Tryz.prog 24 #[sdV (sdS p k) (sdN k)] w fun e w'=>e= .returned (.bool (sdOk p k))∧Below w.heap.size w w':=by
 have hc:k=0∨k=1∨k=2:=by omega
 rcases hc with rfl | rfl | rfl
 · exact psMay_any p.who sPrin w h0
 · exact psMay_any p.act sAct w h1
 · exact psMay_any p.what sRes w h2
theorem pof_name {p:Po}(h:nfault p.nm.data.toList≠0):pof p=nfault p.nm.data.toList:=by unfold pof;rw[if_neg h]
theorem pof_side {p:Po}(h:nfault p.nm.data.toList=0){k:Nat}(hk:k<3)(h2:sdOk p k=false):pof p=1:=by
 unfold pof
 rw[if_pos h]
 have hc:k=0∨k=1∨k=2:=by omega
 rcases hc with rfl | rfl | rfl
 · have:scOk true p.who=false:=h2
   rw[if_neg (by simp[this])]
 · have:scOk false p.act=false:=h2
   rw[if_neg (by simp[this])]
 · have:scOk true p.what=false:=h2
   rw[if_neg (by simp[this])]
theorem pof_rest {p:Po}(h:nfault p.nm.data.toList=0)(h2:∀k,k<3→sdOk p k=true):pof p=if 4<p.cs.length then 4 else csf p.cs:=by
 unfold pof
 have a0:scOk true p.who=true:=h2 0 (by omega)
 have a1:scOk false p.act=true:=h2 1 (by omega)
 have a2:scOk true p.what=true:=h2 2 (by omega)
 rw[if_pos h,if_pos (by simp[a0,a1,a2])]
def poC (p:Po)(pc:Option Addr)(cc:Nat):Array Value:= #[.string p.nm,.bool p.fb,.int .i64 p.who.op,.string p.who.ty,.string p.who.u.t,.string p.who.u.i,.int .i64 p.act.op,.string p.act.ty,.string p.act.u.t,.string p.act.u.i,.int .i64 p.what.op,.string p.what.ty,.string p.what.u.t,.string p.what.u.i,.slice pc p.cs.length cc]
theorem po_cells {w:World}{B:Nat}{p:Po}{pc:Option Addr}{cc:Nat}{T:TypeId}(h:Blk w B (poC p pc cc) T):
 w.cell? ⟨B,0,none⟩=some (.string p.nm)∧w.cell? ⟨B,1,none⟩=some (.bool p.fb)∧w.cell? ⟨B,2,none⟩=some (.int .i64 p.who.op)∧w.cell? ⟨B,3,none⟩=some (.string p.who.ty)∧w.cell? ⟨B,4,none⟩=some (.string p.who.u.t)∧w.cell? ⟨B,5,none⟩=some (.string p.who.u.i)∧w.cell? ⟨B,6,none⟩=some (.int .i64 p.act.op)∧w.cell? ⟨B,7,none⟩=some (.string p.act.ty)∧w.cell? ⟨B,8,none⟩=some (.string p.act.u.t)∧w.cell? ⟨B,9,none⟩=some (.string p.act.u.i)∧w.cell? ⟨B,10,none⟩=some (.int .i64 p.what.op)∧w.cell? ⟨B,11,none⟩=some (.string p.what.ty)∧w.cell? ⟨B,12,none⟩=some (.string p.what.u.t)∧w.cell? ⟨B,13,none⟩=some (.string p.what.u.i)∧w.cell? ⟨B,14,none⟩=some (.slice pc p.cs.length cc):=
 ⟨h.cell 0,h.cell 1,h.cell 2,h.cell 3,h.cell 4,h.cell 5,h.cell 6,h.cell 7,h.cell 8,h.cell 9,h.cell 10,h.cell 11,h.cell 12,h.cell 13,h.cell 14⟩
theorem pcheck_any (p:Po)(pc:Option Addr)(cc:Nat)(w:World)(h:PoA w p pc cc):
 Calls Tryz.prog 11 #[poV p pc cc] w fun e w'=>e= .returned (eV (pof p))∧Below w.heap.size w w':=by
 obtain⟨V,hV⟩:∃V,V=w.alloc (.cells (poC p pc cc) 29):=⟨_,rfl⟩
 have hbV:Below w.heap.size w V:=by rw[hV];exact kqx
 have HBk:Hid (∀w',Below V.heap.size V w'→Blk w' w.heap.size (poC p pc cc) 29):=fun w' hk=>by
  have hb:Blk V w.heap.size (poC p pc cc) 29:=by rw[hV];exact Blk.new w _ _ rfl
  exact hb.up hk
 have HC:=check_any p.nm V h.nm
 have HPA:Hid (PoA V p pc cc):=h.up hbV
 clear h
 by_cases hn:nfault p.nm.data.toList=0
 · rw[eV_nil hn]at HC
   have HS:=fun W=>sidesOf_any p pc cc W
   have HSM:=fun k (hk:k<3) W=>sd_mayBe HPA.out.who HPA.out.act HPA.out.what hk W
   unfold poC at hV
   unfold poV at *
   unfold sdV at HSM
   have HN:Hid (nfault p.nm.data.toList=0):=hn
   have HX:=po_cells (HBk.out V (Below.refl _ _))
   obtain⟨x0,x1,x2,x3,x4,x5,x6,x7,x8,x9,x10,x11,x12,x13,x14⟩:=HX
   clear hn
   go_enter Tryz.func11,Tryz.ntmps11
   go_wp2_with fail
   rw[←hV]
   refine HC.mono ?_
   rintro _ w1 ⟨rfl,rfl⟩
   clear hV HC
   go_wp2_with fail
   refine(HS _).mono ?_
   rintro _ w2 ⟨⟨b,rfl,hsd⟩,hb2⟩
   have HSD:Hid (∀w',Below w2.heap.size w2 w'→Blk w' b (sidesC p) 64):=fun w' hk=>hsd.up hk
   clear hsd HS x0 x1 x2 x3 x4 x5 x6 x7 x8 x9 x10 x11 x12 x13 x14
   go_wp2
   go_loopw [18] (fun i wr=>∃k:Nat,k≤3∧i= .int .i64 k∧Hid (∀j,j<k→sdOk p j=true)∧Below w2.heap.size w2 wr) (fun i _=>3-(intOf i).toNat)
   case atStart=>exact⟨0,by omega,rfl,fun j hj=>by omega,Below.refl _ _⟩
   case round=>
    obtain⟨k,hk,rfl,HA,hb⟩:=hrel
    by_cases hlt:k<3
    · have i1:(k:Int)<3:=by omega
      obtain⟨y0,y1,y2,y3,y4⟩:=sides_at (HSD.out wr hb) hlt
      have hbl:b<wr.heap.size:=(HSD.out wr hb).lt
      have HM:=HSM k hlt
      have HSD2:Hid (sdOk p k=false→pof p=1):=fun e=>pof_side HN.out hlt e
      have HNX:Hid (sdOk p k=true→∀j,j<k+1→sdOk p j=true):=fun e j hj=>by
       by_cases hjk:j<k
       · exact HA.out j hjk
       · have:j=k:=by omega
         rw[this];exact e
      generalize sdS p k=s at *
      generalize sdN k=nm at *
      cases hok:sdOk p k
      · rw[hok]at HM
        have HP:Hid (pof p=1):=HSD2.out hok
        clear HSD2 HNX hok HA
        go_wp2_with fail
        refine(HM _).mono ?_
        rintro _ w3 ⟨rfl,hb3⟩
        go_wp2
        go_ret
        exact⟨by rw[HP.out];rfl,kqt hbV (kqt hb2 (kqt hb (kqt kqx hb3)))⟩
      · rw[hok]at HM
        have HP:Hid (∀j,j<k+1→sdOk p j=true):=HNX.out hok
        clear HSD2 HNX hok HA
        go_wp2_with fail
        refine(HM _).mono ?_
        rintro _ w3 ⟨rfl,hb3⟩
        go_wp2
        go_roundw
        case rel=>exact⟨k+1,by omega,by go_num,HP,kqt hb (kqt kqx hb3)⟩
        case measure=>simp[intOf];omega
    · have i1:¬(k:Int)<3:=by omega
      have HP:Hid (pof p=if 4<p.cs.length then 4 else csf p.cs):=pof_rest HN.out (fun j hj=>HA.out j (by omega))
      have hb02:=kqt hb2 hb
      obtain⟨_,_,_,_,_,_,_,_,_,_,_,_,_,_,x14⟩:=po_cells (HBk.out wr hb02)
      have HPR:Hid (PoA wr p pc cc):=HPA.out.up hb02
      have hb03:Below w.heap.size w wr:=kqt hbV hb02
      have HBr:Hid (∀w',Below wr.heap.size wr w'→w'.cell? ⟨w.heap.size,14,none⟩=some (.slice pc p.cs.length cc)):=fun w' hk=>by
       obtain⟨_,_,_,_,_,_,_,_,_,_,_,_,_,_,x14⟩:=po_cells (HBk.out w' (kqt hb02 hk))
       exact x14
      clear HPA HSM HSD HBk HA hb2 hb hb02 hbV
      by_cases h4:4<p.cs.length
      · have h4':(4:Int)<(p.cs.length:Int):=by omega
        have HP2:Hid (pof p=4):=by show _=_;rw[HP.out,if_pos h4]
        clear h4
        go_wp2
        go_ret
        exact⟨by rw[HP2.out];rfl,hb03⟩
      · have h4':¬(4:Int)<(p.cs.length:Int):=by omega
        have HP2:Hid (pof p=csf p.cs):=by show _=_;rw[HP.out,if_neg h4]
        have h44:p.cs.length≤4:=by omega
        clear h4
        rename World=>wO
        go_wp2
        go_loopw [35] (fun i w4=>∃k:Nat,k≤p.cs.length∧i= .int .i64 k∧Hid (csf p.cs=csf (p.cs.drop k))∧Below wO.heap.size wO w4) (fun i _=>p.cs.length-(intOf i).toNat)
        case atStart=>exact⟨0,Nat.zero_le _,rfl,rfl,Below.refl _ _⟩
        case round=>
         obtain⟨k,hk2,rfl,HA,hb⟩:=hrel
         have z14:=HBr.out wr hb
         by_cases hlt:k<p.cs.length
         · have i2:(k:Int)<(p.cs.length:Int):=by omega
           obtain⟨bb,off,pe,ce,hpc,hbb,hak,z0,z1⟩:=(HPR.out.cl.up hb).at hlt
           subst hpc
           have HNX:Hid (csf (p.cs.drop k)=if cdf p.cs[k]=0 then csf (p.cs.drop (k+1))else cdf p.cs[k]):=csf_next hlt
           have HM:=fun W (hW:Below wr.heap.size wr W)=>pcheckCond_any p.cs[k] pe ce W (hak.up hW)
           unfold cndV at HM
           generalize p.cs[k]=c at *
           clear hak
           by_cases hc:cdf c=0
           · simp only[eV_nil hc]at HM
             have HA2:Hid (csf p.cs=csf (p.cs.drop (k+1))):=by show _=_;rw[HA.out,HNX.out,if_pos hc]
             clear hc HNX HA
             go_wp2_with fail
             refine(HM _ kqx).mono ?_
             rintro _ w5 ⟨rfl,hb5⟩
             go_wp2
             go_roundw
             case rel=>exact⟨k+1,by omega,by go_num,HA2,kqt hb (kqt kqx hb5)⟩
             case measure=>simp[intOf];omega
           · simp only[eV_not hc]at HM
             have HP3:Hid (eV (pof p)= .iface 70 (.int .i64 (cdf c))):=by show _=_;rw[HP2.out,HA.out,HNX.out,if_neg hc,eV_not hc]
             generalize cdf c=n at *
             clear hc HNX HA
             go_wp2_with fail
             refine(HM _ kqx).mono ?_
             rintro _ w5 ⟨rfl,hb5⟩
             go_wp2
             go_ret
             exact⟨by rw[HP3.out];rfl,kqt hb03 (kqt hb (kqt kqx hb5))⟩
         · have i2:¬(k:Int)<(p.cs.length:Int):=by omega
           have HP3:Hid (pof p=0):=by show _=_;rw[HP2.out,HA.out,List.drop_eq_nil_of_le (by omega)];rfl
           go_wp2
           go_ret
           exact⟨by rw[HP3.out];rfl,kqt hb03 hb⟩
 · rw[eV_not hn]at HC
   have HN:Hid (pof p=nfault p.nm.data.toList):=pof_name hn
   generalize nfault p.nm.data.toList=n at *
   unfold poC at hV
   unfold poV
   have HX:=po_cells (HBk.out V (Below.refl _ _))
   obtain⟨x0,x1,x2,x3,x4,x5,x6,x7,x8,x9,x10,x11,x12,x13,x14⟩:=HX
   have HN2:Hid (eV (pof p)= .iface 70 (.int .i64 n)):=by show _=_;rw[HN.out,eV_not hn]
   clear hn HPA HBk
   go_enter Tryz.func11,Tryz.ntmps11
   go_wp2_with fail
   rw[←hV]
   refine HC.mono ?_
   rintro _ w1 ⟨rfl,rfl⟩
   clear hV
   go_wp2
   go_ret
   exact⟨by rw[HN2.out];rfl,hbV⟩
instance:Inhabited Po:=⟨⟨⟨#[]⟩,false,⟨0,⟨#[]⟩,⟨⟨#[]⟩,⟨#[]⟩⟩⟩,⟨0,⟨#[]⟩,⟨⟨#[]⟩,⟨#[]⟩⟩⟩,⟨0,⟨#[]⟩,⟨⟨#[]⟩,⟨#[]⟩⟩⟩,[]⟩⟩
def PsL (w:World)(p:Option Addr)(ps:List Po):Prop:=
 ps=[]∨∃b off,p=some ⟨b,off,none⟩∧b<w.heap.size∧∀i x,ps[i]? =some x→∃pc cc,PoA w x pc cc∧∀(j:Nat) v,(poC x pc cc)[j]? =some v→w.cell? ⟨b,off+i*15+j,none⟩=some v
theorem PsL.nil (w:World)(p:Option Addr):PsL w p []:=.inl rfl
theorem PsL.up {w w':World}{p:Option Addr}{ps:List Po}(h:PsL w p ps)(k:Below w.heap.size w w'):PsL w' p ps:=by
 rcases h with h | ⟨b,off,h1,h2,h3⟩
 · exact .inl h
 · refine .inr ⟨b,off,h1,Nat.lt_of_lt_of_le h2 k.size,fun i x hx=>?_⟩
   obtain⟨pc,cc,q0,q1⟩:=h3 i x hx
   exact⟨pc,cc,q0.up k,fun j v hv=>(k.cell (p:=⟨b,off+i*15+j,none⟩) h2).trans (q1 j v hv)⟩
theorem PsL.at {w:World}{p:Option Addr}{ps:List Po}(h:PsL w p ps){i:Nat}(hi:i<ps.length):∃b off pc cc,p=some ⟨b,off,none⟩∧b<w.heap.size∧PoA w ps[i] pc cc∧
 w.cell? ⟨b,off+i*15,none⟩=some (.string ps[i].nm)∧w.cell? ⟨b,off+i*15+1,none⟩=some (.bool ps[i].fb)∧
 w.cell? ⟨b,off+i*15+2,none⟩=some (.int .i64 ps[i].who.op)∧w.cell? ⟨b,off+i*15+3,none⟩=some (.string ps[i].who.ty)∧w.cell? ⟨b,off+i*15+4,none⟩=some (.string ps[i].who.u.t)∧w.cell? ⟨b,off+i*15+5,none⟩=some (.string ps[i].who.u.i)∧
 w.cell? ⟨b,off+i*15+6,none⟩=some (.int .i64 ps[i].act.op)∧w.cell? ⟨b,off+i*15+7,none⟩=some (.string ps[i].act.ty)∧w.cell? ⟨b,off+i*15+8,none⟩=some (.string ps[i].act.u.t)∧w.cell? ⟨b,off+i*15+9,none⟩=some (.string ps[i].act.u.i)∧
 w.cell? ⟨b,off+i*15+10,none⟩=some (.int .i64 ps[i].what.op)∧w.cell? ⟨b,off+i*15+11,none⟩=some (.string ps[i].what.ty)∧w.cell? ⟨b,off+i*15+12,none⟩=some (.string ps[i].what.u.t)∧w.cell? ⟨b,off+i*15+13,none⟩=some (.string ps[i].what.u.i)∧
 w.cell? ⟨b,off+i*15+14,none⟩=some (.slice pc ps[i].cs.length cc):=by
 rcases h with rfl | ⟨b,off,h1,h2,h3⟩
 · simp at hi
 · obtain⟨pc,cc,q0,q1⟩:=h3 i _ (List.getElem?_eq_getElem hi)
   exact⟨b,off,pc,cc,h1,h2,q0,q1 0 _ rfl,q1 1 _ rfl,q1 2 _ rfl,q1 3 _ rfl,q1 4 _ rfl,q1 5 _ rfl,q1 6 _ rfl,q1 7 _ rfl,q1 8 _ rfl,q1 9 _ rfl,q1 10 _ rfl,q1 11 _ rfl,q1 12 _ rfl,q1 13 _ rfl,q1 14 _ rfl⟩
theorem PsL.one {w:World}{b off:Nat}{ps:List Po}(h:PsL w (some ⟨b,off,none⟩) ps){k:Nat}(hk:k<ps.length):PsL w (some ⟨b,off+k*15,none⟩) [ps[k]]:=by
 rcases h with rfl | ⟨b',off',h1,h2,h3⟩
 · simp at hk
 · cases h1
   refine .inr ⟨b,off+k*15,rfl,h2,fun i x hx=>?_⟩
   cases i with
   | succ i=>simp at hx
   | zero=>
     simp only[List.getElem?_cons_zero,Option.some.injEq]at hx
     subst hx
     obtain⟨pc,cc,q0,q1⟩:=h3 k _ (List.getElem?_eq_getElem hk)
     exact⟨pc,cc,q0,fun j v hv=>by rw[Nat.zero_mul,Nat.add_zero];exact q1 j v hv⟩
theorem PsL.ok {w:World}{p:Option Addr}{ps:List Po}(h:PsL w p ps):∀x∈ps,∃pc cc,PoA w x pc cc:=by
 intro x hx
 obtain⟨i,hi,rfl⟩:=List.getElem_of_mem hx
 obtain⟨_,_,pc,cc,_,_,q,_⟩:=h.at hi
 exact⟨pc,cc,q⟩
end Go.Proofs.YtlnhaajjoplafaaGreatDoor
namespace Go.Proofs.YtlnhaajjoplafaaGreatDoor
open Go.RowKit Go.Deep
set_option maxRecDepth 100000
theorem Tryz.infoPlc:(Tryz.prog.info? 29).map (fun i=>(i.zero,i.size,i.bytes))=some (some (.agg #[.string ⟨#[]⟩,.bool false,.int .i64 0,.string ⟨#[]⟩,.string ⟨#[]⟩,.string ⟨#[]⟩,.int .i64 0,.string ⟨#[]⟩,.string ⟨#[]⟩,.string ⟨#[]⟩,.int .i64 0,.string ⟨#[]⟩,.string ⟨#[]⟩,.string ⟨#[]⟩,.slice none 0 0]),15,216):=by kernel_rfl
structure PA where
 p:Po
 q:Option Addr
 c:Nat
instance:Inhabited PA:=⟨⟨default,none,0⟩⟩
def PA.v (x:PA):Array Value:=poC x.p x.q x.c
theorem PA.len (x:PA):x.v.toList.length=15:=rfl
def plL:List PA→List Value
 | []=>[]
 | x::r=>x.v.toList++plL r
theorem plL_length:∀L:List PA,(plL L).length=L.length*15
 | []=>rfl
 | x::r=>by rw[plL,List.length_append,plL_length r,PA.len,List.length_cons];omega
theorem plL_append:∀L M:List PA,plL (L++M)=plL L++plL M
 | [],_=>rfl
 | x::r,M=>by rw[List.cons_append,plL,plL,plL_append r M,List.append_assoc]
theorem plL_one:∀L:List PA,∀u∈plL L,u.oneCell'=true
 | [],u,h=>by cases h
 | x::r,u,h=>by
   rcases List.mem_append.1 h with h | h
   · unfold PA.v poC at h
     simp only[List.mem_cons,List.not_mem_nil,or_false]at h
     rcases h with rfl | rfl | rfl | rfl | rfl | rfl | rfl | rfl | rfl | rfl | rfl | rfl | rfl | rfl | rfl<;>rfl
   · exact plL_one r u h
theorem plL_at:∀(L:List PA) (i:Nat) (x:PA),L[i]? =some x→∀j,j<15→(plL L)[i*15+j]? =x.v[j]?
 | [],i,x,h,j,hj=>by simp at h
 | y::r,0,x,h,j,hj=>by
   simp only[List.getElem?_cons_zero,Option.some.injEq]at h
   subst h
   rw[Nat.zero_mul,Nat.zero_add,plL,List.getElem?_append_left (by rw[PA.len];exact hj),Array.getElem?_toList]
 | y::r,i+1,x,h,j,hj=>by
   rw[List.getElem?_cons_succ]at h
   rw[plL,List.getElem?_append_right (by rw[PA.len];omega),PA.len,show(i+1)*15+j-15=i*15+j by omega]
   exact plL_at r i x h j hj
structure PAL (w:World)(p:Option Addr)(xs:List PA):Prop where
 parts:∀x∈xs,PoA w x.p x.q x.c
 lies:xs=[]∨∃b off,p=some ⟨b,off,none⟩∧b<w.heap.size∧∀j u,(plL xs)[j]? =some u→w.cell? ⟨b,off+j,none⟩=some u
theorem PAL.up {w w':World}{p:Option Addr}{xs:List PA}(h:PAL w p xs)(k:Below w.heap.size w w'):PAL w' p xs:=by
 refine⟨fun x hx=>(h.parts x hx).up k,?_⟩
 rcases h.lies with h | ⟨b,off,h1,h2,h3⟩
 · exact .inl h
 · exact .inr ⟨b,off,h1,Nat.lt_of_lt_of_le h2 k.size,fun j u hu=>(k.cell (p:=⟨b,off+j,none⟩) h2).trans (h3 j u hu)⟩
theorem PsL.parts {w:World}{p:Option Addr}{ps:List Po}(h:PsL w p ps):∃xs:List PA,xs.map (·.p)=ps∧PAL w p xs:=by
 rcases h with rfl | ⟨b,off,h1,h2,h3⟩
 · exact⟨[],rfl,⟨fun x hx=>(by cases hx),.inl rfl⟩⟩
 · obtain⟨Y,hY⟩:=choose_lt (α :=PA) (n:=ps.length) (p:=fun i y=>ps[i]? =some y.p∧PoA w y.p y.q y.c∧∀(j:Nat) v,y.v[j]? =some v→w.cell? ⟨b,off+i*15+j,none⟩=some v) (fun i hi=>by
    obtain⟨pc,cc,k0,k1⟩:=h3 i ps[i] (List.getElem?_eq_getElem hi)
    exact⟨⟨ps[i],pc,cc⟩,List.getElem?_eq_getElem hi,k0,k1⟩)
   have hget:∀i,i<ps.length→((List.range ps.length).map Y)[i]? =some (Y i):=fun i hi=>by simp[hi]
   refine⟨(List.range ps.length).map Y,?_,fun x hx=>?_,.inr ⟨b,off,h1,h2,fun j u hu=>?_⟩⟩
   · apply List.ext_getElem?
     intro i
     by_cases hi:i<ps.length
     · rw[List.getElem?_map,hget i hi]
       exact(hY i hi).1.symm
     · rw[List.getElem?_eq_none (by simpa using hi),List.getElem?_eq_none (by simpa using hi)]
   · obtain⟨i,hi,rfl⟩:=List.mem_map.1 hx
     exact(hY i (List.mem_range.1 hi)).2.1
   · have hj:j<ps.length*15:=by
      have:=(List.getElem?_eq_some_iff.1 hu).1
      rw[plL_length]at this
      simpa using this
     have hi:j / 15<ps.length:=by omega
     have hr:j % 15<15:=by omega
     have he:j=j / 15*15+j % 15:=by omega
     rw[he,plL_at _ _ _ (hget _ hi) _ hr]at hu
     have:=(hY (j / 15) hi).2.2 (j % 15) u hu
     rw[Nat.add_assoc,←he]at this
     exact this
theorem PAL.pols {w:World}{p:Option Addr}{xs:List PA}(h:PAL w p xs):PsL w p (xs.map (·.p)):=by
 rcases h.lies with rfl | ⟨b,off,h1,h2,h3⟩
 · exact .inl rfl
 · refine .inr ⟨b,off,h1,h2,fun i e he=>?_⟩
   rw[List.getElem?_map]at he
   cases hx:xs[i]? with
   | none=>rw[hx]at he;cases he
   | some x=>
     rw[hx]at he
     cases he
     refine⟨x.q,x.c,h.parts x (List.mem_of_getElem? hx),fun j v hv=>?_⟩
     have hj:j<15:=(Array.getElem?_eq_some_iff.1 hv).1
     have:=plL_at xs i x hx j hj
     rw[Nat.add_assoc]
     exact h3 _ _ (this.trans hv)
structure OPs (w:World)(base:Nat)(v:Value)(xs:List PA):Prop where
 row:w.ownsRow base 29 15 v xs.length (plL xs)
 parts:∀x∈xs,PoA w x.p x.q x.c
theorem OPs.nil (w:World)(base:Nat):OPs w base (.slice none 0 0) []:=⟨World.ownsRow_nil _ _ _ _,fun x hx=>by cases hx⟩
theorem OPs.slice {w:World}{base:Nat}{v:Value}{xs:List PA}(h:OPs w base v xs):∃q c,v= .slice q xs.length c∧PAL w q xs∧xs.length≤c∧c≤maxLen:=by
 rcases h.row.2 with⟨rfl,hn⟩ | ⟨g,cap,cur,rfl,hb,hgg,hle,hm,hsz,htk⟩
 · obtain rfl:=List.eq_nil_of_length_eq_zero hn
   exact⟨none,0,rfl,⟨fun x hx=>(by cases hx),.inl rfl⟩,Nat.le_refl _,Nat.zero_le _⟩
 · have hlt:=(Array.getElem?_eq_some_iff.1 hgg).1
   refine⟨some ⟨g,0,none⟩,cap,rfl,⟨h.parts,.inr ⟨g,0,rfl,hlt,fun j u hu=>?_⟩⟩,hle,hm⟩
   have hj:j<xs.length*15:=by
    have:=(List.getElem?_eq_some_iff.1 hu).1
    rw[plL_length]at this
    exact this
   rw[←hu,←htk,List.getElem?_take_of_lt hj]
   simp[World.cell?, hgg]
theorem OPs.own {w:World}{base:Nat}{v:Value}{xs:List PA}(h:OPs w base v xs):∀g,v.ownBlock=some g→base≤g:=by
 intro g hg
 rcases h.row.2 with⟨rfl,_⟩ | ⟨g',cap,cur,rfl,hb,_⟩
 · simp[Value.ownBlock]at hg
 · simp[Value.ownBlock]at hg
   subst hg
   exact hb
theorem OPs.up {w w':World}{base:Nat}{v:Value}{xs:List PA}(h:OPs w base v xs)(k:Below w.heap.size w w'):OPs w' base v xs:=
 ⟨ownP_agree h.row (fun g _ hl=>k.block g hl),fun x hx=>(h.parts x hx).up k⟩
theorem OPs.none (w:World)(base:Nat)(hb:base≤w.heap.size):OPs (w.alloc (.cells #[] 29)) base (.slice (some ⟨w.heap.size,0,none⟩) 0 0) []:=
 ⟨World.ownsRow_made w #[] 0 hb (Nat.zero_le _) (by simp),fun x hx=>(by cases hx)⟩
theorem append_pols (w:World){ops:Array Oper}{rest:List Oper}{o:Oper}{a:Act}{Q:Exit→Act→World→Prop}(hgd:o.guard=none)(s x:Operand)
 (ho:o.op= .call { callee:=.builtin .append,args:= #[s,x],argTypes:= #[43,43] })
 (base:Nat) (v:Value) (xs:List PA) (hs:a.eval s=v) (hown:OPs w base v xs) (hpx:∀y∈xs,∀w',Below base w w'→PoA w' y.p y.q y.c)
 (ys:List PA) (n:Nat) (hn:ys.length=n) (p:Option Addr) (c:Nat) (hN:PAL w p ys) (hpy:∀y∈ys,∀w',Below base w w'→PoA w' y.p y.q y.c) (hp0:p=none→c=0)
 (hx:a.eval x= .slice p n c) (hlen:(xs.length+ys.length)*216≤140737488355328) (hbase:base≤w.heap.size)
 (h:∀v' w',OPs w' base v' (xs++ys)→Below base w w'→wpList Tryz.prog ops Q rest (a.put o.dst v') w'):wpList Tryz.prog ops Q (o::rest) a w:=by
 subst hn
 obtain⟨i0,hi,hz0,hz1,hz2⟩:=info_parts Tryz.infoPlc
 cases p with
 | none=>
   have hy:ys=[]:=by
    rcases hN.lies with h | ⟨b,off,h1,_⟩
    · exact h
    · cases h1
   subst hy
   rw[hp0 rfl]at hx
   refine wpList_append_own_none hgd s x 43 ho base 29 i0 15 Tryz.underlying43 hi v xs.length (plL xs) hs hown.row hx ?_
   exact h v w (by rw[List.append_nil];exact hown) (Below.refl _ _)
 | some ad=>
   refine wpList_append_own _ hgd s x 43 ho base 29 i0 _ 15 216 Tryz.underlying43 hi hz0 hz1 hz2 rfl (by decide) v xs.length (plL xs) hs hown.row ad ys.length c (plL ys) hx (plL_length ys) ?_ (plL_one _) (by unfold maxLen;omega) (by omega) hbase ?_
   · intro j u hu
     rcases hN.lies with rfl | ⟨b,off,h1,_,h3⟩
     · simp[plL]at hu
     · cases h1
       have hadd:(⟨b,off,none⟩:Addr).add j=⟨b,off+j,none⟩:=by unfold Addr.add;split<;>simp_all
       rw[hadd];exact h3 j u hu
   · intro v' w' h1 h2 _
     have hb:Below base w w':=(Below.refl base w).grown h2 hbase (fun k hk=>hown.own k hk)
     refine h v' w' ⟨?_,fun y hy=>?_⟩ hb
     · rw[plL_append,List.length_append];exact h1
     · rcases List.mem_append.1 hy with hy | hy
       · exact hpx y hy w' hb
       · exact hpy y hy w' hb
theorem Blk.pal {w:World}{B:Nat}{x:PA}{T:TypeId}(h:Blk w B (poC x.p x.q x.c) T)(hp:PoA w x.p x.q x.c):PAL w (some ⟨B,0,none⟩) [x]:=by
 refine⟨fun y hy=>?_,.inr ⟨B,0,rfl,h.lt,fun j u hu=>?_⟩⟩
 · rw[List.mem_singleton]at hy
   subst hy
   exact hp
 · rw[Nat.zero_add,h.cell j]
   rw[plL,plL,List.append_nil]at hu
   rw[←Array.getElem?_toList]
   exact hu
end Go.Proofs.YtlnhaajjoplafaaGreatDoor
namespace Go.Proofs.YtlnhaajjoplafaaGreatDoor
open Go.RowKit
set_option linter.unusedSimpArgs false
set_option maxRecDepth 100000
def SlRet (p:Po)(w':World)(e:Ending):Prop:=
 if pof p=0 then ∃q c,e= .returned (.tuple #[.slice q (slL p).length c,.nilIface])∧TL w' q (slL p)∧(slL p).length≤c∧c≤maxLen else e= .returned (.tuple #[.slice none 0 0,eV (pof p)])
section
variable (p:Po) (pc:Option Addr) (cc:Nat) (w:World) (h:PoA w p pc cc)
include h
theorem slots_bad (hn:pof p≠0):
 Calls Tryz.prog 48 #[poV p pc cc] w fun e w'=>SlRet p w' e∧Below w.heap.size w w':=by
 obtain⟨V,hV⟩:∃V,V=w.alloc (.cells (poC p pc cc) 29):=⟨_,rfl⟩
 have hbV:Below w.heap.size w V:=by rw[hV];exact kqx
 have HBk:Hid (∀W,Below V.heap.size V W→Blk W w.heap.size (poC p pc cc) 29):=fun W hW=>by
  have hb:Blk V w.heap.size (poC p pc cc) 29:=by rw[hV];exact Blk.new w _ _ rfl
  exact hb.up hW
 have HC:=pcheck_any p pc cc V (h.up hbV)
 have HS1:=hasSlot_any p.who
 have HS2:=hasSlot_any p.what
 have HR:Hid (∀W,SlRet p W (.returned (.tuple #[.slice none 0 0,.iface 70 (.int .i64 (pof p))]))):=fun W=>by
  show SlRet _ _ _
  unfold SlRet
  rw[if_neg hn,eV_not hn]
 rw[eV_not hn]at HC
 generalize pof p=n at *
 clear hn h HS1 HS2
 unfold poC at hV
 unfold poV at *
 try unfold scV at *
 go_enter Tryz.func48,Tryz.ntmps48
 go_wp2_with fail
 rw[←hV]
 clear hV
 refine HC.mono ?_
 rintro _ w1 ⟨rfl,hb1⟩
 clear HC
 go_wp2
 go_ret2
 exact⟨HR.out _,kqt hbV hb1⟩
theorem slots_00 (h0:pof p=0)(h1:hsl p.who=false)(h2:hsl p.what=false):
 Calls Tryz.prog 48 #[poV p pc cc] w fun e w'=>SlRet p w' e∧Below w.heap.size w w':=by
 obtain⟨V,hV⟩:∃V,V=w.alloc (.cells (poC p pc cc) 29):=⟨_,rfl⟩
 have hbV:Below w.heap.size w V:=by rw[hV];exact kqx
 have HBk:Hid (∀W,Below V.heap.size V W→Blk W w.heap.size (poC p pc cc) 29):=fun W hW=>by
  have hb:Blk V w.heap.size (poC p pc cc) 29:=by rw[hV];exact Blk.new w _ _ rfl
  exact hb.up hW
 have HC:=pcheck_any p pc cc V (h.up hbV)
 have HS1:=hasSlot_any p.who
 have HS2:=hasSlot_any p.what
 have HR:Hid (∀W q c,TL W q ([]:List ByteArray)→([]:List ByteArray).length≤c→c≤maxLen→SlRet p W (.returned (.tuple #[.slice q ([]:List ByteArray).length c,.nilIface]))):=fun W q c k1 k2 k3=>by
  have e:slL p=[]:=by unfold slL;rw[h1,h2];rfl
  show SlRet _ _ _
  unfold SlRet
  rw[if_pos h0,e]
  exact⟨q,c,rfl,k1,k2,k3⟩
 rw[eV_nil h0]at HC
 rw[h1]at HS1
 rw[h2]at HS2
 clear h0 h1 h2 h
 unfold poC at hV
 unfold poV at *
 try unfold scV at *
 go_enter Tryz.func48,Tryz.ntmps48
 go_wp2_with fail
 rw[←hV]
 clear hV
 refine HC.mono ?_
 rintro _ w1 ⟨rfl,hb1⟩
 clear HC
 have hB:=HBk.out w1 hb1
 obtain⟨x0,x1,x2,x3,x4,x5,x6,x7,x8,x9,x10,x11,x12,x13,x14⟩:=po_cells hB
 have hlt:w.heap.size<w1.heap.size:=hB.lt
 clear hB
 go_wp2_with fail
 refine(HS1 _).mono ?_
 rintro _ w2 ⟨rfl,hb2'⟩
 have hb2:Below V.heap.size V w2:=kqt hb1 hb2'
 clear HS1 hb2' hb1
 clear hlt x0 x1 x2 x3 x4 x5 x6 x7 x8 x9 x10 x11 x12 x13 x14
 have hB:=HBk.out w2 hb2
 obtain⟨x0,x1,x2,x3,x4,x5,x6,x7,x8,x9,x10,x11,x12,x13,x14⟩:=po_cells hB
 have hlt:w.heap.size<w2.heap.size:=hB.lt
 clear hB
 go_wp2_with fail
 refine(HS2 _).mono ?_
 rintro _ w4 ⟨rfl,hb4'⟩
 have hb4:Below V.heap.size V w4:=kqt hb2 hb4'
 clear HS2 hb4' HBk
 clear hlt x0 x1 x2 x3 x4 x5 x6 x7 x8 x9 x10 x11 x12 x13 x14
 have HT:Hid (TL w4 none ([]:List ByteArray)∧([]:List ByteArray).length≤0∧0≤maxLen):=⟨.inl rfl,Nat.le_refl _,Nat.zero_le _⟩
 go_wp2
 go_ret2
 exact⟨HR.out _ _ _ HT.out.1 HT.out.2.1 HT.out.2.2,kqt hbV hb4⟩
theorem slots_01 (h0:pof p=0)(h1:hsl p.who=false)(h2:hsl p.what=true):
 Calls Tryz.prog 48 #[poV p pc cc] w fun e w'=>SlRet p w' e∧Below w.heap.size w w':=by
 obtain⟨V,hV⟩:∃V,V=w.alloc (.cells (poC p pc cc) 29):=⟨_,rfl⟩
 have hbV:Below w.heap.size w V:=by rw[hV];exact kqx
 have HBk:Hid (∀W,Below V.heap.size V W→Blk W w.heap.size (poC p pc cc) 29):=fun W hW=>by
  have hb:Blk V w.heap.size (poC p pc cc) 29:=by rw[hV];exact Blk.new w _ _ rfl
  exact hb.up hW
 have HC:=pcheck_any p pc cc V (h.up hbV)
 have HS1:=hasSlot_any p.who
 have HS2:=hasSlot_any p.what
 have HR:Hid (∀W q c,TL W q ([sQr]:List ByteArray)→([sQr]:List ByteArray).length≤c→c≤maxLen→SlRet p W (.returned (.tuple #[.slice q ([sQr]:List ByteArray).length c,.nilIface]))):=fun W q c k1 k2 k3=>by
  have e:slL p=[sQr]:=by unfold slL;rw[h1,h2];rfl
  show SlRet _ _ _
  unfold SlRet
  rw[if_pos h0,e]
  exact⟨q,c,rfl,k1,k2,k3⟩
 rw[eV_nil h0]at HC
 rw[h1]at HS1
 rw[h2]at HS2
 clear h0 h1 h2 h
 unfold poC at hV
 unfold poV at *
 try unfold scV at *
 go_enter Tryz.func48,Tryz.ntmps48
 go_wp2_with fail
 rw[←hV]
 clear hV
 refine HC.mono ?_
 rintro _ w1 ⟨rfl,hb1⟩
 clear HC
 have hB:=HBk.out w1 hb1
 obtain⟨x0,x1,x2,x3,x4,x5,x6,x7,x8,x9,x10,x11,x12,x13,x14⟩:=po_cells hB
 have hlt:w.heap.size<w1.heap.size:=hB.lt
 clear hB
 go_wp2_with fail
 refine(HS1 _).mono ?_
 rintro _ w2 ⟨rfl,hb2'⟩
 have hb2:Below V.heap.size V w2:=kqt hb1 hb2'
 clear HS1 hb2' hb1
 clear hlt x0 x1 x2 x3 x4 x5 x6 x7 x8 x9 x10 x11 x12 x13 x14
 have hB:=HBk.out w2 hb2
 obtain⟨x0,x1,x2,x3,x4,x5,x6,x7,x8,x9,x10,x11,x12,x13,x14⟩:=po_cells hB
 have hlt:w.heap.size<w2.heap.size:=hB.lt
 clear hB
 go_wp2_with fail
 refine(HS2 _).mono ?_
 rintro _ w4 ⟨rfl,hb4'⟩
 have hb4:Below V.heap.size V w4:=kqt hb2 hb4'
 clear HS2 hb4' HBk
 clear hlt x0 x1 x2 x3 x4 x5 x6 x7 x8 x9 x10 x11 x12 x13 x14
 go_wp2_with (at_builtin;refine append_text w4 rfl (.tmp 20) (.tmp 21) rfl V.heap.size (.slice none 0 0) [] rfl (Row1.nil _ _ _) sQr rfl (by simp) hb4.size ?_;intro v5 w5 ho5 hk5;have hb5:Below V.heap.size V w5:=hb4.trans hk5.bel;have HO5:Hid (OT w5 V.heap.size v5 ([sQr]:List ByteArray)):=ho5;clear ho5 hk5;obtain⟨q,c,rfl,ht,hl1,hl2⟩:=HO5.out.texts;have HT:Hid (TL w5 q ([sQr]:List ByteArray)∧_∧_):=⟨ht,hl1,hl2⟩;clear ht hl1 hl2 HO5)
 go_ret2
 exact⟨HR.out _ _ _ HT.out.1 HT.out.2.1 HT.out.2.2,kqt hbV hb5⟩
theorem slots_10 (h0:pof p=0)(h1:hsl p.who=true)(h2:hsl p.what=false):
 Calls Tryz.prog 48 #[poV p pc cc] w fun e w'=>SlRet p w' e∧Below w.heap.size w w':=by
 obtain⟨V,hV⟩:∃V,V=w.alloc (.cells (poC p pc cc) 29):=⟨_,rfl⟩
 have hbV:Below w.heap.size w V:=by rw[hV];exact kqx
 have HBk:Hid (∀W,Below V.heap.size V W→Blk W w.heap.size (poC p pc cc) 29):=fun W hW=>by
  have hb:Blk V w.heap.size (poC p pc cc) 29:=by rw[hV];exact Blk.new w _ _ rfl
  exact hb.up hW
 have HC:=pcheck_any p pc cc V (h.up hbV)
 have HS1:=hasSlot_any p.who
 have HS2:=hasSlot_any p.what
 have HR:Hid (∀W q c,TL W q ([sQp]:List ByteArray)→([sQp]:List ByteArray).length≤c→c≤maxLen→SlRet p W (.returned (.tuple #[.slice q ([sQp]:List ByteArray).length c,.nilIface]))):=fun W q c k1 k2 k3=>by
  have e:slL p=[sQp]:=by unfold slL;rw[h1,h2];rfl
  show SlRet _ _ _
  unfold SlRet
  rw[if_pos h0,e]
  exact⟨q,c,rfl,k1,k2,k3⟩
 rw[eV_nil h0]at HC
 rw[h1]at HS1
 rw[h2]at HS2
 clear h0 h1 h2 h
 unfold poC at hV
 unfold poV at *
 try unfold scV at *
 go_enter Tryz.func48,Tryz.ntmps48
 go_wp2_with fail
 rw[←hV]
 clear hV
 refine HC.mono ?_
 rintro _ w1 ⟨rfl,hb1⟩
 clear HC
 have hB:=HBk.out w1 hb1
 obtain⟨x0,x1,x2,x3,x4,x5,x6,x7,x8,x9,x10,x11,x12,x13,x14⟩:=po_cells hB
 have hlt:w.heap.size<w1.heap.size:=hB.lt
 clear hB
 go_wp2_with fail
 refine(HS1 _).mono ?_
 rintro _ w2 ⟨rfl,hb2'⟩
 have hb2:Below V.heap.size V w2:=kqt hb1 hb2'
 clear HS1 hb2' hb1
 clear hlt x0 x1 x2 x3 x4 x5 x6 x7 x8 x9 x10 x11 x12 x13 x14
 go_wp2_with (at_builtin;refine append_text w2 rfl (.tmp 14) (.tmp 15) rfl V.heap.size (.slice none 0 0) [] rfl (Row1.nil _ _ _) sQp rfl (by simp) hb2.size ?_;intro v3 w3 ho3 hk3;have hb3:Below V.heap.size V w3:=hb2.trans hk3.bel;have HO3:Hid (OT w3 V.heap.size v3 [sQp]):=ho3;have hB:=HBk.out w3 hb3;obtain⟨x0,x1,x2,x3,x4,x5,x6,x7,x8,x9,x10,x11,x12,x13,x14⟩:=po_cells hB;have hlt:w.heap.size<w3.heap.size:=hB.lt;clear hB ho3 hk3)
 refine(HS2 _).mono ?_
 rintro _ w4 ⟨rfl,hb4'⟩
 have hb4:Below V.heap.size V w4:=kqt hb3 hb4'
 have HO4:Hid (OT w4 V.heap.size v3 [sQp]):=Row1.kept (e:=307) HO3.out (Kept.of_below hb4' hb3.size) (by decide)
 clear HO3
 clear HS2 hb4' HBk
 clear hlt x0 x1 x2 x3 x4 x5 x6 x7 x8 x9 x10 x11 x12 x13 x14
 obtain⟨q,c,rfl,ht,hl1,hl2⟩:=HO4.out.texts
 have HT:Hid (TL w4 q ([sQp]:List ByteArray)∧_∧_):=⟨ht,hl1,hl2⟩
 clear ht hl1 hl2 HO4
 go_wp2
 go_ret2
 exact⟨HR.out _ _ _ HT.out.1 HT.out.2.1 HT.out.2.2,kqt hbV hb4⟩
theorem slots_11 (h0:pof p=0)(h1:hsl p.who=true)(h2:hsl p.what=true):
 Calls Tryz.prog 48 #[poV p pc cc] w fun e w'=>SlRet p w' e∧Below w.heap.size w w':=by
 obtain⟨V,hV⟩:∃V,V=w.alloc (.cells (poC p pc cc) 29):=⟨_,rfl⟩
 have hbV:Below w.heap.size w V:=by rw[hV];exact kqx
 have HBk:Hid (∀W,Below V.heap.size V W→Blk W w.heap.size (poC p pc cc) 29):=fun W hW=>by
  have hb:Blk V w.heap.size (poC p pc cc) 29:=by rw[hV];exact Blk.new w _ _ rfl
  exact hb.up hW
 have HC:=pcheck_any p pc cc V (h.up hbV)
 have HS1:=hasSlot_any p.who
 have HS2:=hasSlot_any p.what
 have HR:Hid (∀W q c,TL W q ([sQp,sQr]:List ByteArray)→([sQp,sQr]:List ByteArray).length≤c→c≤maxLen→SlRet p W (.returned (.tuple #[.slice q ([sQp,sQr]:List ByteArray).length c,.nilIface]))):=fun W q c k1 k2 k3=>by
  have e:slL p=[sQp,sQr]:=by unfold slL;rw[h1,h2];rfl
  show SlRet _ _ _
  unfold SlRet
  rw[if_pos h0,e]
  exact⟨q,c,rfl,k1,k2,k3⟩
 rw[eV_nil h0]at HC
 rw[h1]at HS1
 rw[h2]at HS2
 clear h0 h1 h2 h
 unfold poC at hV
 unfold poV at *
 try unfold scV at *
 go_enter Tryz.func48,Tryz.ntmps48
 go_wp2_with fail
 rw[←hV]
 clear hV
 refine HC.mono ?_
 rintro _ w1 ⟨rfl,hb1⟩
 clear HC
 have hB:=HBk.out w1 hb1
 obtain⟨x0,x1,x2,x3,x4,x5,x6,x7,x8,x9,x10,x11,x12,x13,x14⟩:=po_cells hB
 have hlt:w.heap.size<w1.heap.size:=hB.lt
 clear hB
 go_wp2_with fail
 refine(HS1 _).mono ?_
 rintro _ w2 ⟨rfl,hb2'⟩
 have hb2:Below V.heap.size V w2:=kqt hb1 hb2'
 clear HS1 hb2' hb1
 clear hlt x0 x1 x2 x3 x4 x5 x6 x7 x8 x9 x10 x11 x12 x13 x14
 go_wp2_with (at_builtin;refine append_text w2 rfl (.tmp 14) (.tmp 15) rfl V.heap.size (.slice none 0 0) [] rfl (Row1.nil _ _ _) sQp rfl (by simp) hb2.size ?_;intro v3 w3 ho3 hk3;have hb3:Below V.heap.size V w3:=hb2.trans hk3.bel;have HO3:Hid (OT w3 V.heap.size v3 [sQp]):=ho3;have hB:=HBk.out w3 hb3;obtain⟨x0,x1,x2,x3,x4,x5,x6,x7,x8,x9,x10,x11,x12,x13,x14⟩:=po_cells hB;have hlt:w.heap.size<w3.heap.size:=hB.lt;clear hB ho3 hk3)
 refine(HS2 _).mono ?_
 rintro _ w4 ⟨rfl,hb4'⟩
 have hb4:Below V.heap.size V w4:=kqt hb3 hb4'
 have HO4:Hid (OT w4 V.heap.size v3 [sQp]):=Row1.kept (e:=307) HO3.out (Kept.of_below hb4' hb3.size) (by decide)
 clear HO3
 clear HS2 hb4' HBk
 clear hlt x0 x1 x2 x3 x4 x5 x6 x7 x8 x9 x10 x11 x12 x13 x14
 go_wp2_with (at_builtin;refine append_text w4 rfl (.tmp 20) (.tmp 21) rfl V.heap.size v3 [sQp] rfl HO4.out sQr rfl (by simp) hb4.size ?_;intro v5 w5 ho5 hk5;have hb5:Below V.heap.size V w5:=hb4.trans hk5.bel;have HO5:Hid (OT w5 V.heap.size v5 ([sQp,sQr]:List ByteArray)):=ho5;clear ho5 hk5;obtain⟨q,c,rfl,ht,hl1,hl2⟩:=HO5.out.texts;have HT:Hid (TL w5 q ([sQp,sQr]:List ByteArray)∧_∧_):=⟨ht,hl1,hl2⟩;clear ht hl1 hl2 HO5)
 go_ret2
 exact⟨HR.out _ _ _ HT.out.1 HT.out.2.1 HT.out.2.2,kqt hbV hb5⟩
theorem slots_any:
 Calls Tryz.prog 48 #[poV p pc cc] w fun e w'=>SlRet p w' e∧Below w.heap.size w w':=by
 by_cases h0:pof p=0
 · cases h1:hsl p.who<;>cases h2:hsl p.what
   · exact slots_00 p pc cc w h h0 h1 h2
   · exact slots_01 p pc cc w h h0 h1 h2
   · exact slots_10 p pc cc w h h0 h1 h2
   · exact slots_11 p pc cc w h h0 h1 h2
 · exact slots_bad p pc cc w h h0
end
theorem slots_good {p:Po}{pc:Option Addr}{cc:Nat}{w:World}(h:PoA w p pc cc)(h0:pof p=0){L:List ByteArray}(hL:slL p=L):
 Calls Tryz.prog 48 #[poV p pc cc] w fun e w'=>(∃q c,e= .returned (.tuple #[.slice q L.length c,.nilIface])∧TL w' q L)∧Below w.heap.size w w':=by
 subst hL
 refine(slots_any p pc cc w h).mono ?_
 rintro e w' ⟨h1,h2⟩
 unfold SlRet at h1
 rw[if_pos h0]at h1
 obtain⟨q,c,h3,h4,_⟩:=h1
 exact⟨⟨q,c,h3,h4⟩,h2⟩
theorem slots_wrong {p:Po}{pc:Option Addr}{cc:Nat}{w:World}(h:PoA w p pc cc){n:Int}(h0:pof p=n)(hn:n≠0):
 Calls Tryz.prog 48 #[poV p pc cc] w fun e w'=>e= .returned (.tuple #[.slice none 0 0,.iface 70 (.int .i64 n)])∧Below w.heap.size w w':=by
 subst h0
 refine(slots_any p pc cc w h).mono ?_
 rintro e w' ⟨h1,h2⟩
 unfold SlRet at h1
 rw[if_neg hn,eV_not hn]at h1
 exact⟨h1,h2⟩
theorem LL.lit2 {W:World}{B:Nat}(hB:B=W.heap.size){a b:List Nd}{p q:Option Addr}{c d n m:Nat}(ha:AK0 W a p c)(hb:AK0 W b q d)(hn:a.length=n)(hm:b.length=m):LL (W.alloc (.cells #[.slice p n c,.slice q m d] 30)) (some ⟨B,0,none⟩) [a,b]:=by
 subst hB hn hm
 refine .inr ⟨_,_,rfl,by simp,fun i v hv=>?_⟩
 have hi:i=0∨i=1:=by have:=(List.getElem?_eq_some_iff.1 hv).1;simp at this;omega
 rcases hi with rfl | rfl
 · simp only[List.getElem?_cons_zero,Option.some.injEq]at hv
   subst hv
   exact⟨p,c,(Blk.new W _ _ rfl).cell (0+0),ha.nl.up kqx,ha.le,ha.cm⟩
 · simp only[List.getElem?_cons_succ,List.getElem?_cons_zero,Option.some.injEq]at hv
   subst hv
   exact⟨q,d,(Blk.new W _ _ rfl).cell (0+1),hb.nl.up kqx,hb.le,hb.cm⟩
theorem LL.lit3 {W:World}{B:Nat}(hB:B=W.heap.size){a b e:List Nd}{p q r:Option Addr}{c d f n m k:Nat}(ha:AK0 W a p c)(hb:AK0 W b q d)(he:AK0 W e r f)(hn:a.length=n)(hm:b.length=m)(hk:e.length=k):LL (W.alloc (.cells #[.slice p n c,.slice q m d,.slice r k f] 30)) (some ⟨B,0,none⟩) [a,b,e]:=by
 subst hB hn hm hk
 refine .inr ⟨_,_,rfl,by simp,fun i v hv=>?_⟩
 have hi:i=0∨i=1∨i=2:=by have:=(List.getElem?_eq_some_iff.1 hv).1;simp at this;omega
 rcases hi with rfl | rfl | rfl
 · simp only[List.getElem?_cons_zero,Option.some.injEq]at hv
   subst hv
   exact⟨p,c,(Blk.new W _ _ rfl).cell (0+0),ha.nl.up kqx,ha.le,ha.cm⟩
 · simp only[List.getElem?_cons_succ,List.getElem?_cons_zero,Option.some.injEq]at hv
   subst hv
   exact⟨q,d,(Blk.new W _ _ rfl).cell (0+1),hb.nl.up kqx,hb.le,hb.cm⟩
 · simp only[List.getElem?_cons_succ,List.getElem?_cons_zero,Option.some.injEq]at hv
   subst hv
   exact⟨r,f,(Blk.new W _ _ rfl).cell (0+2),he.nl.up kqx,he.le,he.cm⟩
theorem AK0.lit1 {W:World}{B:Nat}(hB:B=W.heap.size){x:Nd}(hx:x.wf){o n:Value}{s t:Value}(h1:o= .int .i64 x.op)(h2:n= .int .i64 x.n)(h3:s= .string x.s)(h4:t= .string x.t):AK0 (W.alloc (.cells #[o,n,s,t] 47)) [x] (some ⟨B,0,none⟩) 1:=by
 subst h1 h2 h3 h4 hB
 exact⟨NL.lit W [x] _ (by simpa using hx) rfl (by simp),by simp,by unfold maxLen;decide⟩
def CxRet (w w':World)(pe:Option Addr)(L:List Nd)(e:Ending):Prop:=∃q c',e= .returned (.slice q L.length c')∧AK0 w' L q c'∧(q=pe∨∀b o,q=some ⟨b,o,none⟩→w.heap.size≤b)
theorem condExpr_any (c:Cnd)(pe:Option Addr)(ce:Nat)(w:World)(h:AK w c.ex pe ce)(hne:c.ex≠[])(hl:c.ex.length≤200):
 Calls Tryz.prog 19 #[cndV c pe ce] w fun e w'=>CxRet w w' pe (cdE c) e∧Below w.heap.size w w':=by
 obtain⟨un,ex⟩:=c
 simp only at h hne hl
 cases un with
 | false=>
   unfold cndV
   simp only
   have hA:Hid (AK0 w ex pe ce):=⟨h.nl,h.le,h.cm⟩
   clear h
   go_enter Tryz.func19,Tryz.ntmps19
   go_wp2
   go_ret
   exact⟨⟨pe,ce,rfl,hA.out.up kqx,.inl rfl⟩,kqx⟩
 | true=>
   unfold cndV
   simp only
   have hA:Hid (AK0 w ex pe ce):=⟨h.nl,h.le,h.cm⟩
   have HC:=fun W B (hL:LL W (some ⟨B,0,none⟩) [[nO 9],ex])=>concatN_any [[nO 9],ex] (by intro l hl;simp only[List.mem_cons,List.not_mem_nil,or_false]at hl;rcases hl with rfl | rfl;exact(by simp);exact hne) (some ⟨B,0,none⟩) 2 W hL (by simp[catL];omega) (by simp)
   have HL:catL [[nO 9],ex]=nO 9::ex:=by simp[catL]
   rw[HL]at HC
   have HLd:Hid (cdE ⟨true,ex⟩=nO 9::ex):=rfl
   clear h hne HL
   go_enter Tryz.func19,Tryz.ntmps19
   go_wp2_with fail
   refine(HC _ _ ?_).mono ?_
   · refine LL.lit2 (by simp) (AK0.lit1 (by simp) nO_wf rfl rfl rfl rfl) (hA.out.up ?_) rfl rfl
     exact kqx
   rintro _ w3 ⟨⟨q,c',rfl,h3,h4⟩,hb3⟩
   have hb03:Below w.heap.size w w3:=kqt kqx hb3
   have H4:Hid (AK0 w3 (nO 9::ex) q c'∧∀b o,q=some ⟨b,o,none⟩→w.heap.size≤b):=⟨h3,fun b o e=>by have:=h4 b o e;simp at this;omega⟩
   clear h3 h4 HC
   obtain⟨n,hn⟩:∃n,n=(nO 9::ex).length:=⟨_,rfl⟩
   rw[←hn]
   have HN:Hid (n=(nO 9::ex).length):=hn
   clear hn
   go_wp2
   go_ret
   exact⟨⟨q,c',by rw[HLd.out,HN.out];rfl,by rw[HLd.out];exact H4.out.1,.inr H4.out.2⟩,hb03⟩
theorem sN_small (k:Nat):(sdN k).size≤100:=by
 unfold sdN
 split
 · decide
 · split<;>decide
theorem sdS_ok {p:Po}(h0:ScoOk p.who)(h1:ScoOk p.act)(h2:ScoOk p.what)(k:Nat):ScoOk (sdS p k):=by
 unfold sdS
 split
 · exact h0
 · split
   · exact h1
   · exact h2
def scP (p:Po)(k:Nat):List (List Nd):=(List.range k).map fun i=>scE (sdN i) (sdS p i)
theorem scP_next (p:Po)(k:Nat):scP p (k+1)=scP p k++[scE (sdN k) (sdS p k)]:=by
 unfold scP
 rw[List.range_succ,List.map_append];rfl
theorem scP_len (p:Po)(k:Nat):(scP p k).length=k:=by simp[scP]
theorem scP_all (p:Po):scP p 3++p.cs.map cdE=poP p:=rfl
theorem cdE_next {cs:List Cnd}{k:Nat}(h:k<cs.length):(cs.take (k+1)).map cdE=(cs.take k).map cdE++[cdE cs[k]]:=by
 rw[List.take_succ_eq_append_getElem h,List.map_append];rfl
theorem ands_next {l:List (List Nd)}{k n:Nat}(h:k<l.length):andsL (n+1) (l.take (k+1))=nO 11::(andsL n (l.take k)++l[k]):=by
 rw[List.take_succ_eq_append_getElem h,andsL_snoc]
theorem ands_first {l:List (List Nd)}(h:0<l.length):andsL 0 (l.take 1)=l[0]:=by
 cases l with
 | nil=>simp at h
 | cons a r=>simp[andsL]
theorem AK0.lt {w:World}{L:List Nd}{q:Option Addr}{c:Nat}(h:AK0 w L q c)(hne:L≠[]){b o:Nat}(e:q=some ⟨b,o,none⟩):b<w.heap.size:=by
 rcases h.nl with h1 | ⟨b',o',e2,h2,_⟩
 · exact absurd h1 hne
 · rw[e]at e2;cases e2;exact h2
theorem TRow.own {w:World}{base:Nat}{v:Value}{vs:List (List Nd)}(h:TRow w base v vs){g:Nat}(hg:v.ownBlock=some g):g<w.heap.size∧base≤g:=by
 obtain⟨xs,h1,_⟩:=h
 exact ownP_lt h1 hg
theorem TRow.cap {w:World}{base:Nat}{q:Option Addr}{n c:Nat}{vs:List (List Nd)}(h:TRow w base (.slice q n c) vs):vs.length≤c∧c≤maxLen:=by
 obtain⟨xs,h1,_⟩:=h
 rcases h1.2 with⟨e,h0⟩ | ⟨g,cap,cur,e,hb,hgg,hle,hm,_⟩
 · cases e;omega
 · cases e;exact⟨hle,hm⟩
theorem scE_ne (v:ByteArray)(s:Sco):scE v s≠[]:=fun e=>by have:=(scE_len v s).2;rw[e]at this;simp at this
theorem cdE_ne {c:Cnd}(h:xfault c.ex=0):cdE c≠[]:=fun e=>by have:=(cdE_len c h).2;rw[e]at this;simp at this
theorem ex_ne {e:List Nd}(h:xfault e=0):e≠[]:=fun h2=>by
 have:=(xfault_zero h).2
 rw[h2]at this
 simp[pastE]at this
theorem poP_len (p:Po):(poP p).length=3+p.cs.length:=by simp[poP];omega
def ExpRet (w':World)(p:Po)(e:Ending):Prop:=match exprL p with
 | .ok L=>∃q c,e= .returned (.tuple #[.slice q L.length c,.nilIface])∧AK0 w' L q c
 | .error n=>e= .returned (.tuple #[.slice none 0 0,.iface 70 (.int .i64 n)])
def ExpRetN (N:Nat)(w':World)(p:Po)(e:Ending):Prop:=match exprL p with
 | .ok L=>∃q c,e= .returned (.tuple #[.slice q L.length c,.nilIface])∧AK0 w' L q c∧∀b o,q=some ⟨b,o,none⟩→N≤b
 | .error n=>e= .returned (.tuple #[.slice none 0 0,.iface 70 (.int .i64 n)])
theorem ExpRetN.ret {N:Nat}{w':World}{p:Po}{e:Ending}(h:ExpRetN N w' p e):ExpRet w' p e:=by
 unfold ExpRetN at h
 unfold ExpRet
 cases hp:exprL p with
 | ok L=>
   rw[hp]at h
   obtain⟨q,c,h1,h2,_⟩:=h
   exact⟨q,c,h1,h2⟩
 | error n=>
   rw[hp]at h
   exact h
theorem pexpr_new (p:Po)(pc:Option Addr)(cc:Nat)(w:World)(h:PoA w p pc cc):
 Calls Tryz.prog 7 #[poV p pc cc] w fun e w'=>ExpRetN w.heap.size w' p e∧Below w.heap.size w w':=by
 obtain⟨V,hV⟩:∃V,V=w.alloc (.cells (poC p pc cc) 29):=⟨_,rfl⟩
 have hbV:Below w.heap.size w V:=by rw[hV];exact kqx
 have HBk:Hid (∀w',Below V.heap.size V w'→Blk w' w.heap.size (poC p pc cc) 29):=fun w' hk=>by
  have hb:Blk V w.heap.size (poC p pc cc) 29:=by rw[hV];exact Blk.new w _ _ rfl
  exact hb.up hk
 have HC:=pcheck_any p pc cc V (h.up hbV)
 have HPA:Hid (PoA w p pc cc):=h
 have HX:=po_cells (HBk.out V (Below.refl _ _))
 obtain⟨x0,x1,x2,x3,x4,x5,x6,x7,x8,x9,x10,x11,x12,x13,x14⟩:=HX
 clear h
 unfold poC at hV
 by_cases hn:pof p=0
 · rw[eV_nil hn]at HC
   have HS:=fun W=>sidesOf_any p pc cc W
   have HSM:=fun k W=>sideE_any (sdS p k) (sdN k) W (sdS_ok HPA.out.who HPA.out.act HPA.out.what k) (sN_small k)
   have HN:Hid (pof p=0):=hn
   have HCS:Hid (p.cs.length≤4∧∀c∈p.cs,xfault c.ex=0):=by
    obtain⟨_,_,_,_,h5,h6⟩:=pof_ways hn
    exact⟨h5,fun c hc=>(cdf_zero (csf_zero h6 c hc)).1⟩
   unfold poV at *
   unfold sdV at HSM
   clear hn
   go_enter Tryz.func7,Tryz.ntmps7
   go_wp2_with fail
   rw[←hV]
   refine HC.mono ?_
   rintro _ w1 ⟨rfl,hb1⟩
   clear hV HC x0 x1 x2 x3 x4 x5 x6 x7 x8 x9 x10 x11 x12 x13 x14
   have HX:=po_cells (HBk.out w1 hb1)
   obtain⟨x0,x1,x2,x3,x4,x5,x6,x7,x8,x9,x10,x11,x12,x13,x14⟩:=HX
   go_wp2_with fail
   refine(HS _).mono ?_
   rintro _ w2 ⟨⟨b,rfl,hsd⟩,hb2'⟩
   have hb2:=kqt hb1 hb2'
   have HSD:Hid (∀w',Below w2.heap.size w2 w'→Blk w' b (sidesC p) 64):=fun w' hk=>hsd.up hk
   have h02:=kqt hbV hb2
   clear hsd HS x0 x1 x2 x3 x4 x5 x6 x7 x8 x9 x10 x11 x12 x13 x14 hb1 hb2'
   go_wp2
   go_loopw [5,21] (fun pv i wr=>∃k:Nat,k≤3∧i= .int .i64 k∧TRow wr w2.heap.size pv (scP p k)∧Below w2.heap.size w2 wr) (fun _ i _=>3-(intOf i).toNat)
   case atStart=>exact⟨0,by omega,rfl,TRow.nil _ _,Below.refl _ _⟩
   case round=>
    obtain⟨k,hk,rfl,hT,hb⟩:=hrel
    by_cases hlt:k<3
    · have i1:(k:Int)<3:=by omega
      obtain⟨y0,y1,y2,y3,y4⟩:=sides_at (HSD.out wr hb) hlt
      have hbl:b<wr.heap.size:=(HSD.out wr hb).lt
      have HM:=HSM k
      have HNX:Hid (scP p (k+1)=scP p k++[scE (sdN k) (sdS p k)]):=scP_next p k
      have HNE:Hid (scE (sdN k) (sdS p k)≠[]):=scE_ne _ _
      obtain⟨qt,ct,hqt,_⟩:=hT.slice
      rw[scP_len]at hqt
      subst hqt
      have HT:Hid (TRow wr w2.heap.size (.slice qt k ct) (scP p k)):=hT
      clear hT
      generalize sdS p k=s at *
      generalize sdN k=nm at *
      go_wp2_with (first | (refine(HM _).mono ?_;rintro _ w3 ⟨⟨q3,c3,rfl,hA3,hn3⟩,hb3⟩) | (at_builtin;refine Hid.out ?_))
      have hb3':Below wr.heap.size wr w3:=kqt kqx hb3
      have hT3:=HT.out.up hb3'
      have h23:=hb.trans (hb3'.mono hb.size)
      show wpList _ _ _ _ _ _
      refine append_rowT w3 rfl (.tmp 25) (.tmp 28) rfl w2.heap.size (.slice qt k ct) (scP p k) rfl hT3 (scE nm s) q3 c3 hA3 (fun b o e=>⟨hA3.lt HNE.out e,fun e2=>by have h1:=HT.out.own e2;have h2:=hn3 b o e;simp at h2;omega⟩) rfl (by rw[scP_len];omega) h23.size rfl ?_
      intro v8 w8 hT8 hK8
      have hb8:Below w2.heap.size w2 w8:=h23.trans (hK8.below h23.size (fun b e=>(hT3.own e).2))
      obtain⟨q8,c8,rfl,_⟩:=hT8.slice
      have e8:(scP p k++[scE nm s]).length=k+1:=by simp[scP_len]
      rw[e8]at hT8 ⊢
      have HT8:Hid (TRow w8 w2.heap.size (.slice q8 (k+1) c8) (scP p (k+1))):=by rw[HNX.out];exact hT8
      clear e8
      clear hT8 hT3 hA3 hn3 HT hK8
      go_wp2
      go_roundw
      case rel=>exact⟨k+1,by omega,by go_num,HT8.out,hb8⟩
      case measure=>simp[intOf];omega
    · have i1:¬(k:Int)<3:=by omega
      obtain rfl:k=3:=by omega
      have HT:Hid (TRow wr w2.heap.size u5 (scP p 3)):=hT
      have h0r:=kqt h02 hb
      have HPR:Hid (∀w',Below wr.heap.size wr w'→w'.cell? ⟨w.heap.size,14,none⟩=some (.slice pc p.cs.length cc)):=fun w' hk=>by
       obtain⟨_,_,_,_,_,_,_,_,_,_,_,_,_,_,x14⟩:=po_cells (HBk.out w' (kqt hb2 (kqt hb hk)))
       exact x14
      have x14:=HPR.out wr (Below.refl _ _)
      have h0b:w.heap.size≤w2.heap.size:=h02.size
      have hbr:=hb.size
      clear hT HSM HSD HBk hb hb2
      rename World=>wO
      go_wp2
      go_loopw [5,34] (fun pv i w4=>∃k:Nat,k≤p.cs.length∧i= .int .i64 k∧TRow w4 w2.heap.size pv (scP p 3++(p.cs.take k).map cdE)∧Below w2.heap.size wO w4) (fun _ i _=>p.cs.length-(intOf i).toNat)
      case atStart=>exact⟨0,Nat.zero_le _,rfl,by simpa using HT.out,Below.refl _ _⟩
      case round=>
       obtain⟨k,hk2,rfl,hT,hb⟩:=hrel
       have h04:Below w.heap.size w wr:=h0r.trans (hb.mono h0b)
       by_cases hlt:k<p.cs.length
       · have i2:(k:Int)<(p.cs.length:Int):=by omega
         obtain⟨bb,off,pe,ce,hpc,hbb,hak,z0',z1'⟩:=HPA.out.cl.at hlt
         have z0:=(h04.cell (p:=⟨bb,off+k*2,none⟩) hbb).trans z0'
         have z1:=(h04.cell (p:=⟨bb,off+k*2+1,none⟩) hbb).trans z1'
         have hbb4:bb<wr.heap.size:=Nat.lt_of_lt_of_le hbb h04.size
         have HXF:Hid (xfault p.cs[k].ex=0):=HCS.out.2 _ (List.getElem_mem hlt)
         have HM:=fun W (hW:Below w.heap.size w W)=>condExpr_any p.cs[k] pe ce W (hak.up hW) (ex_ne HXF.out) (xfault_zero HXF.out).1
         have HPE:Hid (∀b o,pe=some ⟨b,o,none⟩→b<w.heap.size):=fun b o e=>AK0.lt (c:=ce) ⟨hak.nl,hak.le,hak.cm⟩ (ex_ne HXF.out) e
         have HNX:Hid (scP p 3++(p.cs.take (k+1)).map cdE=(scP p 3++(p.cs.take k).map cdE)++[cdE p.cs[k]]):=by show _=_;rw[cdE_next hlt,List.append_assoc]
         have HNE:Hid (cdE p.cs[k]≠[]):=cdE_ne HXF.out
         have HLn:Hid ((scP p 3++(p.cs.take k).map cdE).length=3+k):=by show _=_;rw[List.length_append,scP_len,List.length_map,List.length_take];omega
         unfold cndV at HM
         subst hpc
         obtain⟨qt,ct,hqt,_⟩:=hT.slice
         rw[HLn.out]at hqt
         subst hqt
         have HT4:Hid (TRow wr w2.heap.size (.slice qt (3+k) ct) (scP p 3++(p.cs.take k).map cdE)):=hT
         clear hT z0' z1' hak
         generalize scP p 3++(p.cs.take k).map cdE=M at *
         generalize p.cs[k]=c at *
         have hkk:k≤4:=by have:=HCS.out.1;omega
         go_wp2_with (first | (refine(HM _ (kqt h04 kqx)).mono ?_;rintro _ w5 ⟨⟨q5,c5,rfl,hA5,hn5⟩,hb5⟩) | (at_builtin;refine Hid.out ?_))
         have hb5':Below wr.heap.size wr w5:=kqt kqx hb5
         have hT5:=HT4.out.up hb5'
         have h25:w2.heap.size≤w5.heap.size:=by have:=hb5'.size;have:=hb.size;omega
         show wpList _ _ _ _ _ _
         refine append_rowT w5 rfl (.tmp 38) (.tmp 41) rfl w2.heap.size (.slice qt (3+k) ct) M rfl hT5 (cdE c) q5 c5 hA5 (fun b o e=>⟨hA5.lt HNE.out e,fun e2=>by
          have h1:=HT4.out.own e2
          rcases hn5 with h2 | h2
          · have h3:=HPE.out b o (by rw[←h2];exact e)
            omega
          · have h3:=h2 b o e
            simp at h3
            omega⟩) rfl (by rw[HLn.out];omega) h25 rfl ?_
         intro v8 w8 hT8 hK8
         have hb8:Below w2.heap.size wO w8:=(hb.trans (hb5'.mono (by have:=hb.size;omega))).trans (hK8.below h25 (fun b e=>(hT5.own e).2))
         have e8:(M++[cdE c]).length=3+k+1:=by rw[List.length_append,HLn.out];rfl
         obtain⟨q8,c8,rfl,_⟩:=hT8.slice
         rw[e8]at hT8 ⊢
         have HT8:Hid (TRow w8 w2.heap.size (.slice q8 (3+k+1) c8) (scP p 3++(p.cs.take (k+1)).map cdE)):=by rw[HNX.out];exact hT8
         clear hT8 hT5 hA5 hn5 HT4 hK8 e8
         go_wp2
         go_roundw
         case rel=>exact⟨k+1,by omega,by go_num,HT8.out,hb8⟩
         case measure=>simp[intOf];omega
       · have i2:¬(k:Int)<(p.cs.length:Int):=by omega
         have e9:scP p 3++(p.cs.take k).map cdE=poP p:=by rw[List.take_of_length_le (by omega)];exact scP_all p
         rw[e9]at hT
         obtain⟨l,hl⟩:∃l,l=poP p:=⟨_,rfl⟩
         have HL:Hid (l=poP p):=hl
         rw[←hl]at hT
         obtain⟨qt,ct,hqt,hLL⟩:=hT.slice
         have hln:l.length=3+p.cs.length:=by rw[hl];exact poP_len p
         have hcap:=(show TRow wr w2.heap.size (.slice qt l.length ct) l by rw[←hqt];exact hT).cap
         subst hqt
         have hl1:0<l.length:=by omega
         obtain⟨bt,ot,_,_,hqt2,_⟩:=hLL.at hl1
         subst hqt2
         have HEL:Hid (∀w',Below wr.heap.size wr w'→∀i (hi:i<l.length),∃q c,w'.cell? ⟨bt,ot+i,none⟩=some (.slice q l[i].length c)∧AK0 w' l[i] q c):=fun w' hk i hi=>by
          obtain⟨b',o',q',c',e,_,g1,g2,g3,g4⟩:=(hLL.up hk).at hi
          cases e
          exact⟨q',c',g1,g2,g3,g4⟩
         have HLB:Hid (∀x∈l,x≠[]∧x.length≤201):=fun x hx=>by
          rw[hl]at hx
          unfold poP at hx
          simp only[List.mem_cons,List.mem_map]at hx
          rcases hx with rfl | rfl | rfl | ⟨c,hc,rfl⟩
          · exact⟨scE_ne _ _,by have:=(scE_len sPrin p.who).1;omega⟩
          · exact⟨scE_ne _ _,by have:=(scE_len sAct p.act).1;omega⟩
          · exact⟨scE_ne _ _,by have:=(scE_len sRes p.what).1;omega⟩
          · exact⟨cdE_ne (HCS.out.2 c hc),(cdE_len c (HCS.out.2 c hc)).1⟩
         have hl7:l.length≤7:=by have:=HCS.out.1;omega
         have HAL:Hid (∀k,k+1≤l.length→(andsL k (l.take (k+1))).length≤5000):=fun k hk=>by
          unfold andsL
          have:=flatten_len (l.take (k+1)) 201 (fun x hx=>(HLB.out x (List.mem_of_mem_take hx)).2)
          have h2:(l.take (k+1)).length≤7:=by rw[List.length_take];omega
          have h3:(l.take (k+1)).length*201≤7*201:=Nat.mul_le_mul_right _ h2
          rw[List.length_append,List.length_replicate]
          omega
         have HEX:Hid (poE p=andsL (l.length-1) l):=by show _=_;unfold poE;rw[hl,poP_len];congr 1;omega
         obtain⟨q0,c0,z0,hA0⟩:=HEL.out wr (Below.refl _ _) 0 hl1
         have HA0:Hid (AK0 wr l[0] q0 c0):=hA0
         have HF0:Hid (andsL 0 (l.take 1)=l[0]):=ands_first hl1
         have HNX:Hid (∀k (hk:k+1<l.length),andsL (k+1) (l.take (k+1+1))=nO 11::(andsL k (l.take (k+1))++l[k+1])):=fun k hk=>ands_next hk
         have hAne:Hid (∀k,andsL k (l.take (k+1))≠[]):=fun k e=>by
          cases k with
          | zero=>
            rw[ands_first hl1]at e
            exact(HLB.out _ (List.getElem_mem hl1)).1 e
          | succ k=>unfold andsL at e;rw[List.replicate_succ]at e;simp at e
         have hbw:=kqt h0r (Below.refl _ _)
         have h0w:Below w.heap.size w wr:=h04
         clear hT hLL hA0 hb h04 HPR x14 e9 hl
         obtain⟨N,hN⟩:∃N,N=l.length:=⟨_,rfl⟩
         rw[←hN]at hcap hl1 hl7 ⊢
         have HNl:Hid (N=l.length):=hN
         have hN3:3≤N:=by omega
         obtain⟨hcap1,hcap2⟩:=hcap
         have hct3:3≤ct:=by omega
         have hct1:¬ct=1:=by omega
         clear hN hl1
         rename World=>wP
         simp only[Nat.add_zero]at z0
         go_wp2
         go_loopw [10,50] (fun ev i w5=>∃k n q c,k+1≤N∧i= .int .i64 (k:Nat)∧ev= .slice q n c∧Hid (k=0∨∀b o,q=some ⟨b,o,none⟩→w.heap.size≤b)∧Hid (n=(andsL k (l.take (k+1))).length)∧AK0 w5 (andsL k (l.take (k+1))) q c∧Below wP.heap.size wP w5) (fun _ i _=>N-(intOf i).toNat)
         case atStart=>exact⟨0,l[0].length,q0,c0,by omega,rfl,rfl,.inl rfl,by show _=_;rw[HF0.out],by rw[HF0.out];exact HA0.out,Below.refl _ _⟩
         case round=>
          obtain⟨k,n,q,c,hk3,rfl,rfl,HQn,HNn,hA,hb⟩:=hrel
          by_cases hlt:k+1<N
          · have i3:(k:Int)<((N-1:Nat):Int):=by omega
            obtain⟨qp,cp,zp,hAp⟩:=HEL.out wr hb (k+1) (by have:=HNl.out;omega)
            have zp2:wr.cell? ⟨bt,ot+1+k,none⟩=some (.slice qp (l[k+1]'(by have:=HNl.out;omega)).length cp):=by rw[Nat.add_assoc,Nat.add_comm 1 k];exact zp
            have HN2:=HNX.out k (by have:=HNl.out;omega)
            have hP:=HLB.out _ (List.getElem_mem (l:=l) (n:=k+1) (by have:=HNl.out;omega))
            have hA1:=hAne.out k
            have hA2:=HAL.out k (by have:=HNl.out;omega)
            clear zp
            generalize l[k+1]'(by have:=HNl.out;omega)=P at *
            have HNX2:Hid (andsL (k+1) (l.take (k+1+1))=nO 11::(andsL k (l.take (k+1))++P)):=HN2
            clear HN2
            generalize andsL k (l.take (k+1))=A at *
            have HC:=fun W B (hL:LL W (some ⟨B,0,none⟩) [[nO 11],A,P])=>concatN_any [[nO 11],A,P] (by intro x hx;simp only[List.mem_cons,List.not_mem_nil,or_false]at hx;rcases hx with rfl | rfl | rfl;exact(by simp);exact hA1;exact hP.1) (some ⟨B,0,none⟩) 3 W hL (by have:=hP.2;simp[catL];omega) (by simp)
            have HL:catL [[nO 11],A,P]=nO 11::(A++P):=by simp[catL]
            rw[HL]at HC
            have HA3:Hid (AK0 wr A q c):=hA
            have HP3:Hid (AK0 wr P qp cp):=hAp
            clear hA hAp hP hA1 hA2 HL
            go_wp2_with fail
            refine(HC _ _ (LL.lit3 (by simp) (AK0.lit1 (by simp) nO_wf rfl rfl rfl rfl) (HA3.out.up kqx) (HP3.out.up kqx) rfl HNn.out.symm rfl)).mono ?_
            rintro _ w6 ⟨⟨q6,c6,rfl,hA6,hq6⟩,hb6⟩
            have HQ6:Hid (k+1=0∨∀b o,q6=some ⟨b,o,none⟩→w.heap.size≤b):=.inr (fun b o e=>by have:=hq6 b o e;simp at this;have:=h0w.size;have:=hb.size;omega)
            have hb6':Below wP.heap.size wP w6:=kqt hb (kqt kqx hb6)
            obtain⟨n6,hn6⟩:∃n,n=(nO 11::(A++P)).length:=⟨_,rfl⟩
            rw[←hn6]
            have HN6:Hid (n6=(andsL (k+1) (l.take (k+1+1))).length):=by show _=_;rw[HNX2.out];exact hn6
            have HA6:Hid (AK0 w6 (andsL (k+1) (l.take (k+1+1))) q6 c6):=by rw[HNX2.out];exact hA6
            clear hn6 hA6 HC hq6 HQn
            go_wp2
            go_roundw
            case rel=>exact⟨k+1,n6,q6,c6,by omega,by go_num,rfl,HQ6,HN6,HA6.out,hb6'⟩
            case measure=>simp[intOf];omega
          · have i3:¬(k:Int)<((N-1:Nat):Int):=by omega
            have e9:andsL k (l.take (k+1))=poE p:=by
             rw[HEX.out,List.take_of_length_le (by have:=HNl.out;omega)]
             congr 1
             have:=HNl.out
             omega
            rw[e9]at hA HNn
            have HAE:Hid (AK0 wr (poE p) q c):=hA
            have h0e:=kqt h0w hb
            clear hA e9 hb
            by_cases h200:200<n
            · have i4:(200:Int)<(n:Int):=by omega
              have HE:Hid (exprL p= .error 4):=by show _=_;unfold exprL;rw[if_pos HN.out,if_neg (by have:=HNn.out;omega)]
              go_wp2
              go_ret2
              exact⟨by unfold ExpRetN;rw[HE.out];rfl,h0e⟩
            · have i4:¬(200:Int)<(n:Int):=by omega
              have HE:Hid (exprL p= .ok (poE p)):=by show _=_;unfold exprL;rw[if_pos HN.out,if_pos (by have:=HNn.out;omega)]
              go_wp2
              go_ret2
              exact⟨by unfold ExpRetN;rw[HE.out];exact⟨q,c,by rw[HNn.out];rfl,HAE.out,(HQn.out).resolve_left (by omega)⟩,h0e⟩
 · have HE:Hid (exprL p= .error (pof p)):=by show _=_;unfold exprL;rw[if_neg hn]
   rw[eV_not hn]at HC
   unfold ExpRetN
   rw[HE.out]
   generalize pof p=n at *
   unfold poV at *
   clear hn HPA HBk HE
   go_enter Tryz.func7,Tryz.ntmps7
   go_wp2_with fail
   rw[←hV]
   refine HC.mono ?_
   rintro _ w1 ⟨rfl,hb1⟩
   clear hV
   go_wp2
   go_ret2
   exact⟨rfl,kqt hbV hb1⟩
theorem pexpr_any (p:Po)(pc:Option Addr)(cc:Nat)(w:World)(h:PoA w p pc cc):
 Calls Tryz.prog 7 #[poV p pc cc] w fun e w'=>ExpRet w' p e∧Below w.heap.size w w':=
 (pexpr_new p pc cc w h).mono fun e w' h=>⟨h.1.ret,h.2⟩
theorem expr_good {p:Po}{pc:Option Addr}{cc:Nat}{w:World}(h:PoA w p pc cc)(h0:pof p=0)(hl:(poE p).length≤200):
 Calls Tryz.prog 7 #[poV p pc cc] w fun e w'=>(∃q c,e= .returned (.tuple #[.slice q (poE p).length c,.nilIface])∧AK0 w' (poE p) q c)∧Below w.heap.size w w':=by
 refine(pexpr_any p pc cc w h).mono ?_
 rintro e w' ⟨h1,h2⟩
 have he:exprL p= .ok (poE p):=by unfold exprL;rw[if_pos h0,if_pos hl]
 unfold ExpRet at h1
 rw[he]at h1
 exact⟨h1,h2⟩
theorem expr_great {p:Po}{pc:Option Addr}{cc:Nat}{w:World}(h:PoA w p pc cc)(h0:pof p=0)(hl:¬(poE p).length≤200):
 Calls Tryz.prog 7 #[poV p pc cc] w fun e w'=>e= .returned (.tuple #[.slice none 0 0,.iface 70 (.int .i64 4)])∧Below w.heap.size w w':=by
 refine(pexpr_any p pc cc w h).mono ?_
 rintro e w' ⟨h1,h2⟩
 have he:exprL p= .error 4:=by unfold exprL;rw[if_pos h0,if_neg hl]
 unfold ExpRet at h1
 rw[he]at h1
 exact⟨h1,h2⟩
theorem expr_err {p:Po}{pc:Option Addr}{cc:Nat}{w:World}{n:Int}(h:PoA w p pc cc)(hn:exprL p= .error n):
 Calls Tryz.prog 7 #[poV p pc cc] w fun e w'=>e= .returned (.tuple #[.slice none 0 0,.iface 70 (.int .i64 n)])∧Below w.heap.size w w':=by
 refine(pexpr_any p pc cc w h).mono ?_
 rintro e w' ⟨h1,h2⟩
 unfold ExpRet at h1
 rw[hn]at h1
 exact⟨h1,h2⟩
theorem expr_new {p:Po}{pc:Option Addr}{cc:Nat}{w:World}(h:PoA w p pc cc)(h0:pof p=0)(hl:(poE p).length≤200):
 Calls Tryz.prog 7 #[poV p pc cc] w fun e w'=>(∃q c,e= .returned (.tuple #[.slice q (poE p).length c,.nilIface])∧AK0 w' (poE p) q c∧∀b o,q=some ⟨b,o,none⟩→w.heap.size≤b)∧Below w.heap.size w w':=by
 refine(pexpr_new p pc cc w h).mono ?_
 rintro e w' ⟨h1,h2⟩
 have he:exprL p= .ok (poE p):=by unfold exprL;rw[if_pos h0,if_pos hl]
 unfold ExpRetN at h1
 rw[he]at h1
 exact⟨h1,h2⟩
theorem exprL_ok {p:Po}{e:List Nd}(h:exprL p= .ok e):pof p=0∧(poE p).length≤200∧e=poE p:=by
 unfold exprL at h
 split at h
 · next h0=>
   split at h
   · next hl=>cases h;exact⟨h0,hl,rfl⟩
   · cases h
 · cases h
end Go.Proofs.YtlnhaajjoplafaaGreatDoor
namespace Go.Proofs.YtlnhaajjoplafaaGreatDoor
open Go.RowKit Go.Deep
set_option maxRecDepth 100000
def PAC (w:World)(p:Option Addr)(ys:List PA):Prop:=ys=[]∨∃b off,p=some ⟨b,off,none⟩∧b<w.heap.size∧∀j u,(plL ys)[j]? =some u→w.cell? ⟨b,off+j,none⟩=some u
theorem PAC.up {w w':World}{p:Option Addr}{ys:List PA}(h:PAC w p ys)(k:Below w.heap.size w w'):PAC w' p ys:=by
 rcases h with h | ⟨b,off,h1,h2,h3⟩
 · exact .inl h
 · exact .inr ⟨b,off,h1,Nat.lt_of_lt_of_le h2 k.size,fun j u hu=>(k.cell (p:=⟨b,off+j,none⟩) h2).trans (h3 j u hu)⟩
theorem wp_append_pols (w:World){o:Oper}{a:Act}{K:Act→World→Prop}{Q:Exit→Act→World→Prop}(s x:Operand)
 (ho:o.op= .call { callee:=.builtin .append,args:= #[s,x],argTypes:= #[43,43] })
 (base:Nat) (v:Value) (xs:List PA) (hs:a.eval s=v) (hown:w.ownsRow base 29 15 v xs.length (plL xs)) (ys:List PA) (n:Nat) (hn:ys.length=n) (p:Option Addr) (c:Nat) (hN:PAC w p ys) (hp0:p=none→c=0)
 (hx:a.eval x= .slice p n c) (hlen:(xs.length+ys.length)*216≤140737488355328) (hbase:base≤w.heap.size)
 (h:∀v' w',w'.ownsRow base 29 15 v' (xs++ys).length (plL (xs++ys))→w.grownBy w' v.ownBlock→(v'.ownBlock=v.ownBlock∨v'.ownBlock=some w.heap.size)→K (a.put o.dst v') w'):o.wp Tryz.prog a w K Q:=by
 subst hn
 obtain⟨i0,hi,hz0,hz1,hz2⟩:=info_parts Tryz.infoPlc
 cases p with
 | none=>
   have hy:ys=[]:=by
    rcases hN with h | ⟨b,off,h1,_⟩
    · exact h
    · cases h1
   subst hy
   rw[hp0 rfl]at hx
   refine wp_append_none w s x 43 ho base 29 i0 15 Tryz.underlying43 hi v xs.length (plL xs) hs hown hx ?_
   exact h v w (by rw[List.append_nil];exact hown) ⟨rfl,rfl,rfl,Nat.le_refl _,fun _ _ _=>rfl⟩ (.inl rfl)
 | some ad=>
   refine wp_append_at w s x 43 ho base 29 i0 _ 15 216 Tryz.underlying43 hi hz0 hz1 hz2 rfl (by decide) v xs.length (plL xs) hs hown ad ys.length c (plL ys) hx (plL_length ys) ?_ (plL_one _) (by unfold maxLen;omega) (by omega) hbase ?_
   · intro j u hu
     rcases hN with rfl | ⟨b,off,h1,_,h3⟩
     · simp[plL]at hu
     · cases h1
       have hadd:(⟨b,off,none⟩:Addr).add j=⟨b,off+j,none⟩:=by unfold Addr.add;split<;>simp_all
       rw[hadd];exact h3 j u hu
   · intro v' w' h1 h2 h3
     refine h v' w' ?_ h2 h3
     rw[plL_append,List.length_append];exact h1
theorem pols_of_row {w:World}{base:Nat}{v:Value}{xs:List PA}(h:w.ownsRow base 29 15 v xs.length (plL xs))(hp:∀x∈xs,PoA w x.p x.q x.c):∃q c,v= .slice q xs.length c∧PsL w q (xs.map (·.p))∧xs.length≤c∧c≤maxLen:=by
 obtain⟨q,c,h1,h2,h3,h4⟩:=OPs.slice ⟨h,hp⟩
 exact⟨q,c,h1,h2.pols,h3,h4⟩
theorem pac_one {w:World}{B:Nat}{x:PA}{T:TypeId}(h:Blk w B (poC x.p x.q x.c) T):PAC w (some ⟨B,0,none⟩) [x]:=by
 refine .inr ⟨B,0,rfl,h.lt,fun j u hu=>?_⟩
 rw[Nat.zero_add,h.cell j]
 rw[plL,plL,List.append_nil]at hu
 rw[←Array.getElem?_toList]
 exact hu
theorem PAL.at {w:World}{p:Option Addr}{xs:List PA}(h:PAL w p xs){i:Nat}(hi:i<xs.length):∃b off,p=some ⟨b,off,none⟩∧b<w.heap.size∧PoA w xs[i].p xs[i].q xs[i].c∧
 w.cell? ⟨b,off+i*15,none⟩=some (.string xs[i].p.nm)∧w.cell? ⟨b,off+i*15+1,none⟩=some (.bool xs[i].p.fb)∧
 w.cell? ⟨b,off+i*15+2,none⟩=some (.int .i64 xs[i].p.who.op)∧w.cell? ⟨b,off+i*15+3,none⟩=some (.string xs[i].p.who.ty)∧w.cell? ⟨b,off+i*15+4,none⟩=some (.string xs[i].p.who.u.t)∧w.cell? ⟨b,off+i*15+5,none⟩=some (.string xs[i].p.who.u.i)∧
 w.cell? ⟨b,off+i*15+6,none⟩=some (.int .i64 xs[i].p.act.op)∧w.cell? ⟨b,off+i*15+7,none⟩=some (.string xs[i].p.act.ty)∧w.cell? ⟨b,off+i*15+8,none⟩=some (.string xs[i].p.act.u.t)∧w.cell? ⟨b,off+i*15+9,none⟩=some (.string xs[i].p.act.u.i)∧
 w.cell? ⟨b,off+i*15+10,none⟩=some (.int .i64 xs[i].p.what.op)∧w.cell? ⟨b,off+i*15+11,none⟩=some (.string xs[i].p.what.ty)∧w.cell? ⟨b,off+i*15+12,none⟩=some (.string xs[i].p.what.u.t)∧w.cell? ⟨b,off+i*15+13,none⟩=some (.string xs[i].p.what.u.i)∧
 w.cell? ⟨b,off+i*15+14,none⟩=some (.slice xs[i].q xs[i].p.cs.length xs[i].c):=by
 rcases h.lies with rfl | ⟨b,off,h1,h2,h3⟩
 · simp at hi
 · have hc:∀j v,xs[i].v[j]? =some v→w.cell? ⟨b,off+i*15+j,none⟩=some v:=fun j v hv=>by
    have hj:j<15:=(Array.getElem?_eq_some_iff.1 hv).1
    rw[Nat.add_assoc]
    exact h3 _ _ ((plL_at xs i _ (List.getElem?_eq_getElem hi) j hj).trans hv)
   exact⟨b,off,h1,h2,h.parts _ (List.getElem_mem hi),hc 0 _ rfl,hc 1 _ rfl,hc 2 _ rfl,hc 3 _ rfl,hc 4 _ rfl,hc 5 _ rfl,hc 6 _ rfl,hc 7 _ rfl,hc 8 _ rfl,hc 9 _ rfl,hc 10 _ rfl,hc 11 _ rfl,hc 12 _ rfl,hc 13 _ rfl,hc 14 _ rfl⟩
theorem Blk.put3 {w w':World}{B:Nat}{x0 x1 x2 a b c:Value}{T:TypeId}(h:Blk w B #[x0,x1,x2] T)(hw:w'=((w.setCell ⟨B,0,none⟩ a).setCell ⟨B,1,none⟩ b).setCell ⟨B,2,none⟩ c):Blk w' B #[a,b,c] T∧Keep (fun a=>a=B) w w':=by
 have e1:=heap_setCell_same w B 0 _ _ a h.blk
 have e2:=heap_setCell_same _ B 1 _ _ b e1
 have e3:=heap_setCell_same _ B 2 _ _ c e2
 subst hw
 have q:∀(W:World) (o:Nat) (z:Value),Keep (fun a=>a=B) W (W.setCell ⟨B,o,none⟩ z):=fun W o z=>keep_set W B o z
 have t:∀ {a b c:World},Keep (fun a=>a=B) a b→Keep (fun a=>a=B) b c→Keep (fun a=>a=B) a c:=fun h k=>h.trans k (fun _ e=>.inl e)
 exact⟨⟨e3⟩,t (t (q _ _ _) (q _ _ _)) (q _ _ _)⟩
theorem al_step {f:Po→Int}{l:List Po}{y:Po}{pb fb:Bool}(h:(pb=true↔∃p∈l,p.fb=false∧f p=1)∧(fb=true↔∃p∈l,p.fb=true∧f p=1)):
 ((pb || (!y.fb && decide (f y=1)))=true↔∃p∈l++[y],p.fb=false∧f p=1)∧((fb || (y.fb && decide (f y=1)))=true↔∃p∈l++[y],p.fb=true∧f p=1):=by
 have hx:∀b:Bool,(∃p∈l++[y],p.fb=b∧f p=1)↔(∃p∈l,p.fb=b∧f p=1)∨(y.fb=b∧f y=1):=fun b=>by
  constructor
  · rintro⟨p,hp,hq⟩
    rcases List.mem_append.1 hp with hp | hp
    · exact .inl ⟨p,hp,hq⟩
    · rw[List.mem_singleton.1 hp]at hq;exact .inr hq
  · rintro(⟨p,hp,hq⟩ | hq)
    · exact⟨p,List.mem_append_left _ hp,hq⟩
    · exact⟨y,List.mem_append_right _ (List.mem_singleton.2 rfl),hq⟩
 rw[hx,hx,Bool.or_eq_true,Bool.or_eq_true,h.1,h.2,Bool.and_eq_true,Bool.and_eq_true,decide_eq_true_iff,Bool.not_eq_true']
 exact⟨Iff.rfl,Iff.rfl⟩
theorem nodup_mapI {l:List Int}(h:l.Nodup)(h0:∀z∈l,0≤z):(l.map Int.toNat).Nodup:=by
 induction l with
 | nil=>exact List.nodup_nil
 | cons a r ih=>
   rw[List.nodup_cons]at h
   rw[List.map_cons,List.nodup_cons]
   refine⟨fun hm=>?_,ih h.2 (fun z hz=>h0 z (List.mem_cons_of_mem _ hz))⟩
   obtain⟨b,hb,e⟩:=List.mem_map.1 hm
   have h1:=h0 a List.mem_cons_self
   have h2:=h0 b (List.mem_cons_of_mem _ hb)
   have h3:a=b:=by omega
   exact h.1 (h3▸hb)
theorem filter_take {α :Type}{F: α →Bool}{l:List α}{k:Nat}(hk:k<l.length):(l.take (k+1)).filter F=(l.take k).filter F++(if F l[k]=true then[l[k]]else[]):=by
 rw[List.take_succ_eq_append_getElem hk,List.filter_append]
 by_cases h:F l[k]=true
 · rw[if_pos h,List.filter_cons_of_pos h,List.filter_nil]
 · rw[if_neg h,List.filter_cons_of_neg h,List.filter_nil]
end Go.Proofs.YtlnhaajjoplafaaGreatDoor
