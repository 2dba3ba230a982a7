import Derived.Test.YthhijecpookfhaaGreatDoorLfillsWalk
import Derived.Test.YthhijecpookfhaaGreatDoorF17
import Derived.Test.YthhijecpookfhaaGreatDoorF6
import Derived.Test.YthhijecpookfhaaGreatDoorF7
import Derived.Test.YthhijecpookfhaaGreatDoorLfillsF
import Derived.Test.YthhijecpookfhaaGreatDoorF8
import Derived.ProofKit
import Derived.OpenShut
import Derived.ShutString
import Derived.ChangeOld
import Derived.Deep.DeepHandedRow
import Derived.SizedLaws
import Derived.LaidLaws
import Derived.LaidHandle
import Derived.JoinedCond
set_option linter.unusedVariables false
set_option maxHeartbeats 12000000
namespace Go.Proofs.YthhijecpookfhaaGreatDoor
open Go.ChangeShapes Go.WideShapes Go.ChangeAt Go.RowKit
open Go.ChangeMaps (open_string shut_string)
set_option maxRecDepth 100000 in
theorem linkFills_contract (H:Type)(enc:TypeId×Value→H)(W:World)(base:Nat)(args:Array Value)(ds gs:List (DataW H))(before:List MemPlace)
 (hval:∀(j:Nat) t v,Tryz.f3.params[j]? =some t→args[j]? =some v→Value.okWide Tryz.prog W .any base t v)
 (hW:DataW.Whole enc Tryz.prog Tryz.f3.params.toList Rows.linkFillsSpec.vars false W args.toList ds gs before)
 (hsz:(DataW.weightsEach Tryz.prog (Tryz.f3.params.toList++Rows.linkFillsSpec.plain.varTypes Tryz.prog) (ds++gs)).all (· ≤reachBytes)=true)
 (hL0:laidMetH Tryz.prog listed W) (hsh:W.ShapedOpen Tryz.prog):
 Calls Tryz.prog 3 args W fun e W'=>∃v,e= .returned v∧Rows.linkFillsSpec.post enc Tryz.prog Tryz.f3 false true false false W args v W':=by
 have hW':=hW
 obtain⟨p,q,hA0,hV,rfl,hfz,hnd⟩:=hW
 have hA:DataW.TrodAll enc Tryz.prog W 0 (fun _=>true) true Tryz.f3.params.toList args.toList ds p:=hA0
 rw[Tryz.params3]at hA hval hsz
 obtain⟨v0,vs0,d0,ds0,p0,q0,hargs,rfl,rfl,h0,t0⟩:=trodAll_cons hA
 obtain⟨v1,vs1,d1,ds1,p1,q1,rfl,rfl,rfl,h1,t1⟩:=trodAll_cons t0
 obtain⟨v2,vs2,d2,ds2,p2,q2,rfl,rfl,rfl,h2,t2⟩:=trodAll_cons t1
 obtain⟨rfl,rfl,rfl⟩:=trodAll_nil t2
 obtain rfl:args= #[v0,v1,v2]:=by cases args;simp_all
 obtain⟨rfl,rfl⟩:=trodVars_none hV
 have k0:=h0
 have lt0:∀x∈p0,x.block<W.heap.size:=by obtain⟨m,hm⟩:=k0;exact DataW.trod_lt m _ _ _ hm
 obtain⟨Q0,q0_,c0,rfl,o0⟩:=open_pol (hval 0 28 v0 rfl rfl) h0
 obtain⟨a1,b1,rfl,rfl,rfl,wa1,wb1⟩:=open_uid (hval 1 23 v1 rfl rfl) h1
 obtain⟨a2,b2,rfl,rfl,rfl,wa2,wb2⟩:=open_uid (hval 2 23 v2 rfl rfl) h2
 clear hA0
 have hL:=errVar_of_laid hL0
 refine(linkFills_walk Q0 q0_ c0 ⟨a1,b1⟩ ⟨a2,b2⟩ W hL o0 ⟨wa1,wb1⟩ ⟨wa2,wb2⟩).mono fun e W' ⟨he,bel⟩=>?_
 subst he
 exact⟨_,rfl,_,_,_,[],_,[],hW',trodAll_mk1 (shut_bool Tryz.underlying4 _),(trodAll_cons_mk (Below.trod laidOut (by kernel_rfl) (of_decide_eq_true (by kernel_rfl)) k0 bel lt0) (trodAll_cons_mk (shut_uid wa1 wb1) (trodAll_cons_mk (shut_uid wa2 wb2) trodAll_mk0))),rfl,bel.frame _,fun h=>by cases h⟩
theorem linkFills_reads (os:Os){H:Type}(enc:TypeId×Value→H):∃places,DataW.whole enc Tryz.prog ((layErr (World.holding Tryz.prog os ⟨#[], #[],[]⟩)).forCall (fun _ _=>0) ⟨#[], #[.agg #[.string ByteArray.empty,.bool false,.int .i64 0,.string ByteArray.empty,.string ByteArray.empty,.string ByteArray.empty,.int .i64 0,.string ByteArray.empty,.string ByteArray.empty,.string ByteArray.empty,.int .i64 0,.string ByteArray.empty,.string ByteArray.empty,.string ByteArray.empty,.slice none 0 0],.agg #[.string ByteArray.empty,.string ByteArray.empty],.agg #[.string ByteArray.empty,.string ByteArray.empty]],[]⟩).memory Tryz.f3.params.toList Rows.linkFillsSpec.vars false (#[.agg #[.string ByteArray.empty,.bool false,.int .i64 0,.string ByteArray.empty,.string ByteArray.empty,.string ByteArray.empty,.int .i64 0,.string ByteArray.empty,.string ByteArray.empty,.string ByteArray.empty,.int .i64 0,.string ByteArray.empty,.string ByteArray.empty,.string ByteArray.empty,.slice none 0 0],.agg #[.string ByteArray.empty,.string ByteArray.empty],.agg #[.string ByteArray.empty,.string ByteArray.empty]]:Array Value).toList 8=some ([.agg [.lit (.string []),.lit (.bool false),.agg [.lit (.int .i64 0),.lit (.string []),.agg [.lit (.string []),.lit (.string [])]],.agg [.lit (.int .i64 0),.lit (.string []),.agg [.lit (.string []),.lit (.string [])]],.agg [.lit (.int .i64 0),.lit (.string []),.agg [.lit (.string []),.lit (.string [])]],.nil],.agg [.lit (.string []),.lit (.string [])],.agg [.lit (.string []),.lit (.string [])]],[],places):=
 ⟨[],by kernel_rfl⟩
set_option maxRecDepth 100000 in
theorem linkFills_lifted (os:Os)(started:os.Started)(H:Type)(enc:TypeId×Value→H)(F:Stop.Interp):
 ReturnsInHanded {} Tryz.checked os 3 .any ((OpenSpec.ofChange Rows.linkFillsSpec).preRow enc Tryz.prog Tryz.f3 Rows.linkFillsRow.domain false Rows.linkFillsRow.laid) (((OpenSpec.ofChange Rows.linkFillsSpec).at F).post enc Tryz.prog Tryz.f3 false true false false):=by
 obtain⟨places,hx⟩:=linkFills_reads os enc
 refine returnsInHanded_of_row (C:=Tryz.checked) (s:=(OpenSpec.ofChange Rows.linkFillsSpec)) (by kernel_rfl) started (by kernel_rfl) Tryz.func3
  (witness_row_at (enc:=enc) (C:=Tryz.checked) false (layErr (World.holding Tryz.prog os ⟨#[], #[],[]⟩)) #[.agg #[.string ByteArray.empty,.bool false,.int .i64 0,.string ByteArray.empty,.string ByteArray.empty,.string ByteArray.empty,.int .i64 0,.string ByteArray.empty,.string ByteArray.empty,.string ByteArray.empty,.int .i64 0,.string ByteArray.empty,.string ByteArray.empty,.string ByteArray.empty,.slice none 0 0],.agg #[.string ByteArray.empty,.string ByteArray.empty],.agg #[.string ByteArray.empty,.string ByteArray.empty]] rfl (by kernel_rfl) (by kernel_rfl) (by kernel_rfl)
   (OpenSpec.preRow_of_cond 8 hx (by kernel_rfl) (fun k hk=>by cases hk) (by kernel_rfl) (laid_met os _))) ?_
 intro W base args ds gs before hval hW _ hcond hsz hL hsh _
 exact linkFills_contract H enc W base args ds gs before hval hW hsz hL hsh
theorem linkFills_said:Rows.LinkFillsSaid:=
 OpenClaim.holds_of_cond 3 Tryz.f3 rfl rfl rfl rfl rfl rfl rfl ⟨rfl,rfl,rfl,rfl,rfl⟩ rfl rfl rfl rfl rfl (by kernel_rfl) Tryz.func3 linkFills_closed
  (of_decide_eq_true (by kernel_rfl)) (by unfold Func.isWrapper;rw[if_neg (of_decide_eq_false (by kernel_rfl))];exact⟨rfl,rfl⟩)
  (fun os started H enc _ F=>by rw[OpenClaim.pre_eq_preRow];exact linkFills_lifted os started H enc F)
theorem linkFills_plain (f:FuncId)(fn:Func)(hf:Tryz.pinned.checked.prog.funcNamed Rows.linkFillsRow.func=some f)(hfn:Tryz.pinned.checked.prog.funcs[f]? =some fn):
 true=Tryz.pinned.checked.prog.looks []∧∀(j:Nat) t,fn.params[j]? =some t→Tryz.pinned.checked.prog.wantsStandIn t=false:=by
 obtain rfl:f=3:=Option.some.inj ((show Tryz.prog.funcNamed Rows.linkFillsRow.func=some 3 by kernel_rfl).symm.trans hf) |>.symm
 obtain rfl:fn=Tryz.f3:=(Option.some.inj (Tryz.func3.symm.trans hfn)).symm
 refine⟨by kernel_rfl,fun j t ht=>?_⟩
 rw[Tryz.params3]at ht
 have hm:=Array.mem_of_getElem? ht
 have hm2:t=28∨t=23∨t=23:=by simpa[or_assoc]using hm
 rcases hm2 with rfl | rfl | rfl
 · exact(show Tryz.prog.wantsStandIn 28=false by kernel_rfl)
 · exact(show Tryz.prog.wantsStandIn 23=false by kernel_rfl)
 · exact(show Tryz.prog.wantsStandIn 23=false by kernel_rfl)
theorem linkFills_card:Rows.LinkFillsCardSaid:=
 Claim7.holds_tied_plain_at .later [] _ _ _ _ linkFills_said (fun _ h=>by cases h) (by kernel_rfl) (fun _ h=>by cases h) linkFills_row_tie rfl ⟨rfl,rfl⟩ (by kernel_rfl) rfl linkFills_plain (by kernel_rfl)
#print axioms linkFills_card
end Go.Proofs.YthhijecpookfhaaGreatDoor
