import Derived.Test.YtjkepjbfgeldnaaGreatDoorPolBackWalk
import Derived.Test.YtjkepjbfgeldnaaGreatDoorB22
import Derived.Test.YtjkepjbfgeldnaaGreatDoorB12
import Derived.Test.YtjkepjbfgeldnaaGreatDoorB28
import Derived.Test.YtjkepjbfgeldnaaGreatDoorB3
import Derived.Test.YtjkepjbfgeldnaaGreatDoorB26
import Derived.ProofKit
import Derived.OpenShut
import Derived.ShutString
import Derived.ChangeOld
import Derived.Deep.DeepHandedRow
import Derived.SizedLaws
import Derived.LaidLaws
import Derived.LaidHandle
import Derived.JoinedCond
set_option linter.unusedVariables false
set_option maxHeartbeats 12000000
namespace Go.Proofs.YtjkepjbfgeldnaaGreatDoor
open Go.ChangeShapes Go.WideShapes Go.ChangeAt Go.RowKit
open Go.ChangeMaps (open_string shut_string)
set_option maxRecDepth 100000 in
theorem polBack_contract (H:Type)(enc:TypeId×Value→H)(W:World)(base:Nat)(args:Array Value)(ds gs:List (DataW H))(before:List MemPlace)
 (hval:∀(j:Nat) t v,Tryz.f3.params[j]? =some t→args[j]? =some v→Value.okWide Tryz.prog W .any base t v)
 (hW:DataW.Whole enc Tryz.prog Tryz.f3.params.toList Rows.polBackSpec.vars false W args.toList ds gs before)
 (hsz:(DataW.weightsEach Tryz.prog (Tryz.f3.params.toList++Rows.polBackSpec.plain.varTypes Tryz.prog) (ds++gs)).all (· ≤reachBytes)=true)
 (hL0:laidMetH Tryz.prog listed7 W) (hsh:W.ShapedOpen Tryz.prog):
 Calls Tryz.prog 3 args W fun e W'=>∃v,e= .returned v∧Rows.polBackSpec.post enc Tryz.prog Tryz.f3 false true false false W args v W':=by
 have hW':=hW
 obtain⟨p,q,hA0,hV,rfl,hfz,hnd⟩:=hW
 have hA:DataW.TrodAll enc Tryz.prog W 0 (fun _=>true) true Tryz.f3.params.toList args.toList ds p:=hA0
 rw[Tryz.params3]at hA hval hsz
 obtain⟨v0,vs0,d0,ds0,p0,q0,hargs,rfl,rfl,h0,t0⟩:=trodAll_cons hA
 obtain⟨v1,vs1,d1,ds1,p1,q1,rfl,rfl,rfl,h1,t1⟩:=trodAll_cons t0
 obtain⟨rfl,rfl,rfl⟩:=trodAll_nil t1
 obtain rfl:args= #[v0,v1]:=by cases args;simp_all
 obtain⟨rfl,rfl⟩:=trodVars_none hV
 have k0:=h0
 have lt0:∀x∈p0,x.block<W.heap.size:=by obtain⟨m,hm⟩:=k0;exact DataW.trod_lt m _ _ _ hm
 obtain⟨Q0,q0_,c0,rfl,o0⟩:=open_pol (hval 0 28 v0 rfl rfl) h0
 obtain⟨s1,rfl,rfl,rfl,w1⟩:=open_string Tryz.underlying9 (hval 1 9 v1 rfl rfl) h1
 have r1:s1.size≤140737488351232:=by simpa[reachBytes]using sized_string hsz (j:=1) (t:=9) rfl rfl
 clear hA0
 have hL:=errIn_of_laid7 hL0
 refine(polback_walk Q0 q0_ c0 s1 W o0 (pol_low k0 o0.cl) w1 (tab_of_laid7 hL0) hL).mono fun e W' ⟨he,bel⟩=>?_
 subst he
 exact⟨_,rfl,_,_,_,[],_,[],hW',trodAll_mk1 (shut_bool Tryz.underlying4 _),(trodAll_cons_mk (Below.trod laidOut (by kernel_rfl) (of_decide_eq_true (by kernel_rfl)) k0 bel lt0) (trodAll_cons_mk (shut_string Tryz.underlying9 w1) trodAll_mk0)),rfl,bel.frame _,fun h=>by cases h⟩
theorem polBack_reads (os:Os){H:Type}(enc:TypeId×Value→H):∃places,DataW.whole enc Tryz.prog ((layAll7 (World.holding Tryz.prog os ⟨#[], #[],[]⟩)).forCall (fun _ _=>0) ⟨#[], #[.agg #[.string ByteArray.empty,.bool false,.int .i64 0,.string ByteArray.empty,.string ByteArray.empty,.string ByteArray.empty,.int .i64 0,.string ByteArray.empty,.string ByteArray.empty,.string ByteArray.empty,.int .i64 0,.string ByteArray.empty,.string ByteArray.empty,.string ByteArray.empty,.slice none 0 0],.string ByteArray.empty],[]⟩).memory Tryz.f3.params.toList Rows.polBackSpec.vars false (#[.agg #[.string ByteArray.empty,.bool false,.int .i64 0,.string ByteArray.empty,.string ByteArray.empty,.string ByteArray.empty,.int .i64 0,.string ByteArray.empty,.string ByteArray.empty,.string ByteArray.empty,.int .i64 0,.string ByteArray.empty,.string ByteArray.empty,.string ByteArray.empty,.slice none 0 0],.string ByteArray.empty]:Array Value).toList 8=some ([.agg [.lit (.string []),.lit (.bool false),.agg [.lit (.int .i64 0),.lit (.string []),.agg [.lit (.string []),.lit (.string [])]],.agg [.lit (.int .i64 0),.lit (.string []),.agg [.lit (.string []),.lit (.string [])]],.agg [.lit (.int .i64 0),.lit (.string []),.agg [.lit (.string []),.lit (.string [])]],.nil],.lit (.string [])],[],places):=
 ⟨[],by kernel_rfl⟩
set_option maxRecDepth 100000 in
theorem polBack_lifted (os:Os)(started:os.Started)(H:Type)(enc:TypeId×Value→H)(F:Stop.Interp):
 ReturnsInHanded {} Tryz.checked os 3 .any ((OpenSpec.ofChange Rows.polBackSpec).preRow enc Tryz.prog Tryz.f3 Rows.polBackRow.domain false Rows.polBackRow.laid) (((OpenSpec.ofChange Rows.polBackSpec).at F).post enc Tryz.prog Tryz.f3 false true false false):=by
 obtain⟨places,hx⟩:=polBack_reads os enc
 refine returnsInHanded_of_row (C:=Tryz.checked) (s:=(OpenSpec.ofChange Rows.polBackSpec)) (by kernel_rfl) started (by kernel_rfl) Tryz.func3
  (witness_row_at (enc:=enc) (C:=Tryz.checked) false (layAll7 (World.holding Tryz.prog os ⟨#[], #[],[]⟩)) #[.agg #[.string ByteArray.empty,.bool false,.int .i64 0,.string ByteArray.empty,.string ByteArray.empty,.string ByteArray.empty,.int .i64 0,.string ByteArray.empty,.string ByteArray.empty,.string ByteArray.empty,.int .i64 0,.string ByteArray.empty,.string ByteArray.empty,.string ByteArray.empty,.slice none 0 0],.string ByteArray.empty] rfl (by kernel_rfl) (by kernel_rfl) (by kernel_rfl)
   (OpenSpec.preRow_of_cond 8 hx (by kernel_rfl) (fun k hk=>by cases hk) (by kernel_rfl) (laid_met7 os _))) ?_
 intro W base args ds gs before hval hW _ hcond hsz hL hsh _
 exact polBack_contract H enc W base args ds gs before hval hW hsz hL hsh
theorem polBack_said:Rows.PolBackSaid:=
 OpenClaim.holds_of_cond 3 Tryz.f3 rfl rfl rfl rfl rfl rfl rfl ⟨rfl,rfl,rfl,rfl,rfl⟩ rfl rfl rfl rfl rfl (by kernel_rfl) Tryz.func3 polBack_closed
  (of_decide_eq_true (by kernel_rfl)) (by unfold Func.isWrapper;rw[if_neg (of_decide_eq_false (by kernel_rfl))];exact⟨rfl,rfl⟩)
  (fun os started H enc _ F=>by rw[OpenClaim.pre_eq_preRow];exact polBack_lifted os started H enc F)
theorem polBack_plain (f:FuncId)(fn:Func)(hf:Tryz.pinned.checked.prog.funcNamed Rows.polBackRow.func=some f)(hfn:Tryz.pinned.checked.prog.funcs[f]? =some fn):
 true=Tryz.pinned.checked.prog.looks []∧∀(j:Nat) t,fn.params[j]? =some t→Tryz.pinned.checked.prog.wantsStandIn t=false:=by
 obtain rfl:f=3:=Option.some.inj ((show Tryz.prog.funcNamed Rows.polBackRow.func=some 3 by kernel_rfl).symm.trans hf) |>.symm
 obtain rfl:fn=Tryz.f3:=(Option.some.inj (Tryz.func3.symm.trans hfn)).symm
 refine⟨by kernel_rfl,fun j t ht=>?_⟩
 rw[Tryz.params3]at ht
 have hm:=Array.mem_of_getElem? ht
 have hm2:t=28∨t=9:=by simpa[or_assoc]using hm
 rcases hm2 with rfl | rfl
 · exact(show Tryz.prog.wantsStandIn 28=false by kernel_rfl)
 · exact(show Tryz.prog.wantsStandIn 9=false by kernel_rfl)
theorem polBack_card:Rows.PolBackCardSaid:=
 Claim7.holds_tied_plain_at .later [] _ _ _ _ polBack_said (fun _ h=>by cases h) (by kernel_rfl) (fun _ h=>by cases h) polBack_row_tie rfl ⟨rfl,rfl⟩ (by kernel_rfl) rfl polBack_plain (by kernel_rfl)
#print axioms polBack_card
end Go.Proofs.YtjkepjbfgeldnaaGreatDoor
