import Derived.Test.YtlnhaajjoplafaaGreatDoorT14
import Derived.Test.YtlnhaajjoplafaaGreatDoorT27
set_option linter.unusedVariables false
set_option maxHeartbeats 12000000
namespace Go.Proofs.YtlnhaajjoplafaaGreatDoor
open Go.ChangeShapes Go.WideShapes Go.ChangeAt Go.RowKit Go.Deep
def P64 (p:Po):Prop:=∀c∈p.cs,∀y∈c.ex,n64 y
set_option maxRecDepth 100000 in
theorem open_pol_cells {H:Type}{enc:TypeId×Value→H}{W:World}{base:Nat}{spare:Nat→Bool}{held:Bool}{fuel:Nat}{cs:List Value}{x:DataW H×List MemPlace}
 (hf:DataW.trod enc Tryz.prog W base spare held fuel 29 cs=some x):
 ∃(q:Po) (pc:Option Addr) (cc:Nat),cs=(poC q pc cc).toList∧PoA W q pc cc∧P64 q:=by
 obtain⟨xs,n,_,rfl,hl,hlen,hf⟩:=DataW.trod_struct Tryz.underlying29 hf
 rw[Tryz.cellsPol]at hl
 match xs,hlen with
 | [y0,y1,y2,y3,y4,y5],_=>
   have f0:=hf 0 _ rfl
   have f1:=hf 1 _ rfl
   have f2:=hf 2 _ rfl
   have f3:=hf 3 _ rfl
   have f4:=hf 4 _ rfl
   have f5:=hf 5 _ rfl
   match cs,hl with
   | [c0,c1,c2,c3,c4,c5,c6,c7,c8,c9,c10,c11,c12,c13,c14],_=>
     simp[Tryz.cellsSp,Tryz.cellsBp,Tryz.cellsSco,Tryz.cellsCnds]at f0 f1 f2 f3 f4 f5
     obtain⟨nm,e0,_,w0⟩:=DataW.trod_string Tryz.underlying9 f0
     obtain⟨fb,e1,_⟩:=DataW.trod_bool Tryz.underlying4 f1
     obtain⟨s0,e2,o2⟩:=open_sco_cells f2
     obtain⟨s1,e3,o3⟩:=open_sco_cells f3
     obtain⟨s2,e4,o4⟩:=open_sco_cells f4
     obtain⟨l,pc,cc,e5,g1,g2,g3⟩:=open_cnds_cells f5
     simp at e0 e1 e2 e3 e4 e5
     obtain⟨rfl,rfl,rfl,rfl⟩:=e2
     obtain⟨rfl,rfl,rfl,rfl⟩:=e3
     obtain⟨rfl,rfl,rfl,rfl⟩:=e4
     subst e0 e1 e5
     exact⟨⟨nm,fb,s0,s1,s2,l⟩,pc,cc,rfl,⟨w0,o2,o3,o4,g1,g2,g3⟩,cnds_low f5 g1⟩
end Go.Proofs.YtlnhaajjoplafaaGreatDoor
