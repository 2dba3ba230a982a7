import Derived.Test.YtlnhaajjoplafaaGreatDoorTlWalk
import Derived.Test.YtlnhaajjoplafaaGreatDoorT19
import Derived.Test.YtlnhaajjoplafaaGreatDoorT40
import Derived.Test.YtlnhaajjoplafaaGreatDoorT14
import Derived.Test.YtlnhaajjoplafaaGreatDoorT7
import Derived.Test.YtlnhaajjoplafaaGreatDoorT13
import Derived.Test.YtlnhaajjoplafaaGreatDoorTlF
import Derived.ProofKit
import Derived.OpenShut
import Derived.ShutString
import Derived.ChangeOld
import Derived.Deep.DeepHandedRow
import Derived.SizedLaws
import Derived.LaidLaws
import Derived.LaidHandle
import Derived.JoinedCond
set_option linter.unusedVariables false
set_option maxHeartbeats 12000000
namespace Go.Proofs.YtlnhaajjoplafaaGreatDoor
open Go.ChangeShapes Go.WideShapes Go.ChangeAt Go.RowKit
open Go.ChangeMaps (open_string shut_string)
set_option maxRecDepth 100000 in
theorem topLinked_contract (H:Type)(enc:TypeId×Value→H)(W:World)(base:Nat)(args:Array Value)(ds gs:List (DataW H))(before:List MemPlace)
 (hval:∀(j:Nat) t v,Tryz.f3.params[j]? =some t→args[j]? =some v→Value.okWide Tryz.prog W .any base t v)
 (hW:DataW.Whole enc Tryz.prog Tryz.f3.params.toList Rows.topLinkedSpec.vars false W args.toList ds gs before)
 (hsz:(DataW.weightsEach Tryz.prog (Tryz.f3.params.toList++Rows.topLinkedSpec.plain.varTypes Tryz.prog) (ds++gs)).all (· ≤reachBytes)=true)
 (hL0:laidMetH Tryz.prog listed W) (hsh:W.ShapedOpen Tryz.prog):
 Calls Tryz.prog 3 args W fun e W'=>∃v,e= .returned v∧Rows.topLinkedSpec.post enc Tryz.prog Tryz.f3 false true false false W args v W':=by
 have hW':=hW
 obtain⟨p,q,hA0,hV,rfl,hfz,hnd⟩:=hW
 have hA:DataW.TrodAll enc Tryz.prog W 0 (fun _=>true) true Tryz.f3.params.toList args.toList ds p:=hA0
 rw[Tryz.params3]at hA hval hsz
 obtain⟨v0,vs0,d0,ds0,p0,q0,hargs,rfl,rfl,h0,t0⟩:=trodAll_cons hA
 obtain⟨v1,vs1,d1,ds1,p1,q1,rfl,rfl,rfl,h1,t1⟩:=trodAll_cons t0
 obtain⟨v2,vs2,d2,ds2,p2,q2,rfl,rfl,rfl,h2,t2⟩:=trodAll_cons t1
 obtain⟨v3,vs3,d3,ds3,p3,q3,rfl,rfl,rfl,h3,t3⟩:=trodAll_cons t2
 obtain⟨v4,vs4,d4,ds4,p4,q4,rfl,rfl,rfl,h4,t4⟩:=trodAll_cons t3
 obtain⟨rfl,rfl,rfl⟩:=trodAll_nil t4
 obtain rfl:args= #[v0,v1,v2,v3,v4]:=by cases args;simp_all
 obtain⟨rfl,rfl⟩:=trodVars_none hV
 have k0:=h0
 have lt0:∀x∈p0,x.block<W.heap.size:=by obtain⟨m,hm⟩:=k0;exact DataW.trod_lt m _ _ _ hm
 obtain⟨L0,q0_,c0,rfl,o0⟩:=open_ents (hval 0 22 v0 rfl rfl) h0
 have k1:=h1
 have lt1:∀x∈p1,x.block<W.heap.size:=by obtain⟨m,hm⟩:=k1;exact DataW.trod_lt m _ _ _ hm
 obtain⟨Q1,q1_,c1,rfl,o1⟩:=open_pol (hval 1 29 v1 rfl rfl) h1
 obtain⟨a2,b2,rfl,rfl,rfl,wa2,wb2⟩:=open_uid (hval 2 24 v2 rfl rfl) h2
 obtain⟨a3,b3,rfl,rfl,rfl,wa3,wb3⟩:=open_uid (hval 3 24 v3 rfl rfl) h3
 have k4:=h4
 have lt4:∀x∈p4,x.block<W.heap.size:=by obtain⟨m,hm⟩:=k4;exact DataW.trod_lt m _ _ _ hm
 obtain⟨Q4,q4_,c4,rfl,o4⟩:=open_req (hval 4 32 v4 rfl rfl) h4
 clear hA0
 have hL:=errVar_of_laid hL0
 refine(tl_walk L0 q0_ c0 Q1 q1_ c1 ⟨a2,b2⟩ ⟨a3,b3⟩ Q4 q4_ c4 W ⟨o0.1,o4.1,hL,ents_low k0 o0.1,o4.2⟩ o1 (pol_low k1 o1.cl) ⟨wa2,wb2⟩ ⟨wa3,wb3⟩).mono fun e W' ⟨he,bel⟩=>?_
 subst he
 exact⟨_,rfl,_,_,_,[],_,[],hW',trodAll_mk1 (shut_bool Tryz.underlying4 _),(trodAll_cons_mk (Below.trod laidOut (by kernel_rfl) (of_decide_eq_true (by kernel_rfl)) k0 bel lt0) (trodAll_cons_mk (Below.trod laidOut (by kernel_rfl) (of_decide_eq_true (by kernel_rfl)) k1 bel lt1) (trodAll_cons_mk (shut_uid wa2 wb2) (trodAll_cons_mk (shut_uid wa3 wb3) (trodAll_cons_mk (Below.trod laidOut (by kernel_rfl) (of_decide_eq_true (by kernel_rfl)) k4 bel lt4) trodAll_mk0))))),rfl,bel.frame _,fun h=>by cases h⟩
theorem topLinked_reads (os:Os){H:Type}(enc:TypeId×Value→H):∃places,DataW.whole enc Tryz.prog ((layErr (World.holding Tryz.prog os ⟨#[], #[],[]⟩)).forCall (fun _ _=>0) ⟨#[], #[.slice none 0 0,.agg #[.string ByteArray.empty,.bool false,.int .i64 0,.string ByteArray.empty,.string ByteArray.empty,.string ByteArray.empty,.int .i64 0,.string ByteArray.empty,.string ByteArray.empty,.string ByteArray.empty,.int .i64 0,.string ByteArray.empty,.string ByteArray.empty,.string ByteArray.empty,.slice none 0 0],.agg #[.string ByteArray.empty,.string ByteArray.empty],.agg #[.string ByteArray.empty,.string ByteArray.empty],.agg #[.string ByteArray.empty,.string ByteArray.empty,.string ByteArray.empty,.string ByteArray.empty,.string ByteArray.empty,.string ByteArray.empty,.slice none 0 0]],[]⟩).memory Tryz.f3.params.toList Rows.topLinkedSpec.vars false (#[.slice none 0 0,.agg #[.string ByteArray.empty,.bool false,.int .i64 0,.string ByteArray.empty,.string ByteArray.empty,.string ByteArray.empty,.int .i64 0,.string ByteArray.empty,.string ByteArray.empty,.string ByteArray.empty,.int .i64 0,.string ByteArray.empty,.string ByteArray.empty,.string ByteArray.empty,.slice none 0 0],.agg #[.string ByteArray.empty,.string ByteArray.empty],.agg #[.string ByteArray.empty,.string ByteArray.empty],.agg #[.string ByteArray.empty,.string ByteArray.empty,.string ByteArray.empty,.string ByteArray.empty,.string ByteArray.empty,.string ByteArray.empty,.slice none 0 0]]:Array Value).toList 8=some ([.nil,.agg [.lit (.string []),.lit (.bool false),.agg [.lit (.int .i64 0),.lit (.string []),.agg [.lit (.string []),.lit (.string [])]],.agg [.lit (.int .i64 0),.lit (.string []),.agg [.lit (.string []),.lit (.string [])]],.agg [.lit (.int .i64 0),.lit (.string []),.agg [.lit (.string []),.lit (.string [])]],.nil],.agg [.lit (.string []),.lit (.string [])],.agg [.lit (.string []),.lit (.string [])],.agg [.agg [.lit (.string []),.lit (.string [])],.agg [.lit (.string []),.lit (.string [])],.agg [.lit (.string []),.lit (.string [])],.nil]],[],places):=
 ⟨[],by kernel_rfl⟩
set_option maxRecDepth 100000 in
theorem topLinked_lifted (os:Os)(started:os.Started)(H:Type)(enc:TypeId×Value→H)(F:Stop.Interp):
 ReturnsInHanded {} Tryz.checked os 3 .any ((OpenSpec.ofChange Rows.topLinkedSpec).preRow enc Tryz.prog Tryz.f3 Rows.topLinkedRow.domain false Rows.topLinkedRow.laid) (((OpenSpec.ofChange Rows.topLinkedSpec).at F).post enc Tryz.prog Tryz.f3 false true false false):=by
 obtain⟨places,hx⟩:=topLinked_reads os enc
 refine returnsInHanded_of_row (C:=Tryz.checked) (s:=(OpenSpec.ofChange Rows.topLinkedSpec)) (by kernel_rfl) started (by kernel_rfl) Tryz.func3
  (witness_row_at (enc:=enc) (C:=Tryz.checked) false (layErr (World.holding Tryz.prog os ⟨#[], #[],[]⟩)) #[.slice none 0 0,.agg #[.string ByteArray.empty,.bool false,.int .i64 0,.string ByteArray.empty,.string ByteArray.empty,.string ByteArray.empty,.int .i64 0,.string ByteArray.empty,.string ByteArray.empty,.string ByteArray.empty,.int .i64 0,.string ByteArray.empty,.string ByteArray.empty,.string ByteArray.empty,.slice none 0 0],.agg #[.string ByteArray.empty,.string ByteArray.empty],.agg #[.string ByteArray.empty,.string ByteArray.empty],.agg #[.string ByteArray.empty,.string ByteArray.empty,.string ByteArray.empty,.string ByteArray.empty,.string ByteArray.empty,.string ByteArray.empty,.slice none 0 0]] rfl (by kernel_rfl) (by kernel_rfl) (by kernel_rfl)
   (OpenSpec.preRow_of_cond 8 hx (by kernel_rfl) (fun k hk=>by cases hk) (by kernel_rfl) (laid_met os _))) ?_
 intro W base args ds gs before hval hW _ hcond hsz hL hsh _
 exact topLinked_contract H enc W base args ds gs before hval hW hsz hL hsh
theorem topLinked_said:Rows.TopLinkedSaid:=
 OpenClaim.holds_of_cond 3 Tryz.f3 rfl rfl rfl rfl rfl rfl rfl ⟨rfl,rfl,rfl,rfl,rfl⟩ rfl rfl rfl rfl rfl (by kernel_rfl) Tryz.func3 topLinked_closed
  (of_decide_eq_true (by kernel_rfl)) (by unfold Func.isWrapper;rw[if_neg (of_decide_eq_false (by kernel_rfl))];exact⟨rfl,rfl⟩)
  (fun os started H enc _ F=>by rw[OpenClaim.pre_eq_preRow];exact topLinked_lifted os started H enc F)
theorem topLinked_plain (f:FuncId)(fn:Func)(hf:Tryz.pinned.checked.prog.funcNamed Rows.topLinkedRow.func=some f)(hfn:Tryz.pinned.checked.prog.funcs[f]? =some fn):
 true=Tryz.pinned.checked.prog.looks []∧∀(j:Nat) t,fn.params[j]? =some t→Tryz.pinned.checked.prog.wantsStandIn t=false:=by
 obtain rfl:f=3:=Option.some.inj ((show Tryz.prog.funcNamed Rows.topLinkedRow.func=some 3 by kernel_rfl).symm.trans hf) |>.symm
 obtain rfl:fn=Tryz.f3:=(Option.some.inj (Tryz.func3.symm.trans hfn)).symm
 refine⟨by kernel_rfl,fun j t ht=>?_⟩
 rw[Tryz.params3]at ht
 have hm:=Array.mem_of_getElem? ht
 have hm2:t=22∨t=29∨t=24∨t=24∨t=32:=by simpa[or_assoc]using hm
 rcases hm2 with rfl | rfl | rfl | rfl | rfl
 · exact(show Tryz.prog.wantsStandIn 22=false by kernel_rfl)
 · exact(show Tryz.prog.wantsStandIn 29=false by kernel_rfl)
 · exact(show Tryz.prog.wantsStandIn 24=false by kernel_rfl)
 · exact(show Tryz.prog.wantsStandIn 24=false by kernel_rfl)
 · exact(show Tryz.prog.wantsStandIn 32=false by kernel_rfl)
theorem topLinked_card:Rows.TopLinkedCardSaid:=
 Claim7.holds_tied_plain_at .later [] _ _ _ _ topLinked_said (fun _ h=>by cases h) (by kernel_rfl) (fun _ h=>by cases h) topLinked_row_tie rfl ⟨rfl,rfl⟩ (by kernel_rfl) rfl topLinked_plain (by kernel_rfl)
#print axioms topLinked_card
end Go.Proofs.YtlnhaajjoplafaaGreatDoor
