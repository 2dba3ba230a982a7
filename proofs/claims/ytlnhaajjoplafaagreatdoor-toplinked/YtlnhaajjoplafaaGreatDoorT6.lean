import Derived.Test.YtlnhaajjoplafaaGreatDoorChecked
import Derived.WalkKit
import Derived.WalkLawsBesides
import Derived.WalkSpells
import Derived.Below
import Derived.Laws.IdiomStrings
import Derived.Laws.BytesArg
set_option linter.unusedVariables false
set_option maxHeartbeats 12000000
namespace Go.Proofs.YtlnhaajjoplafaaGreatDoor
open Go.RowKit
def bs (l:List UInt8):List Value:=l.map fun b=>Value.int .u8 (b.toNat:Int)
theorem bs_length (l:List UInt8):(bs l).length=l.length:=by simp[bs]
theorem bs_snoc (l:List UInt8)(c:UInt8):bs (l++[c])=bs l++[.int .u8 (c.toNat:Int)]:=by simp[bs]
def OwnB (w:World)(base:Nat)(v:Value)(l:List UInt8):Prop:=w.ownsRow base 5 1 v l.length (bs l)
theorem Tryz.infoByte:(Tryz.prog.info? 5).map (fun i=>(i.zero,i.size,i.bytes))=some (some (.int .u8 0),1,1):=by kernel_rfl
theorem ownB_nil (w:World)(base:Nat):OwnB w base (.slice none 0 0) []:=World.ownsRow_nil _ _ _ _
theorem ownB_one (w:World)(n:Int)(c:UInt8)(hc:n=c.toNat):OwnB (w.alloc (.cells #[.int .u8 n] 5)) w.heap.size (.slice (some ⟨w.heap.size,0,none⟩) 1 1) [c]:=by
 subst hc
 exact⟨rfl,.inr ⟨w.heap.size,1, #[.int .u8 c.toNat],rfl,Nat.le_refl _,heap_alloc_new w _,Nat.le_refl _,by unfold maxLen;omega,rfl,rfl⟩⟩
theorem append_byte (w:World){ops:Array Oper}{rest:List Oper}{o:Oper}{a:Act}{Q:Exit→Act→World→Prop}(hgd:o.guard=none)(s x:Operand)
 (ho:o.op= .call { callee:=.builtin .append,args:= #[s,x],argTypes:= #[119,119] })
 (base:Nat) (v:Value) (l:List UInt8) (hs:a.eval s=v) (hown:OwnB w base v l) (n:Int) (c:UInt8) (hc:n=c.toNat) (hx:a.eval x= .slice (some ⟨w.heap.size,0,none⟩) 1 1)
 (hlen:l.length+1≤140737488355328) (hbase:base≤w.heap.size)
 (h:∀v' w',OwnB w' base v' (l++[c])→Below base w w'→wpList Tryz.prog ops Q rest (a.put o.dst v') w'):wpList Tryz.prog ops Q (o::rest) a (w.alloc (.cells #[.int .u8 n] 5)):=by
 obtain⟨i0,hi,hz0,hz1,hz2⟩:=info_parts Tryz.infoByte
 subst hc
 refine wpList_append_own _ hgd s x 119 ho base 5 i0 (.int .u8 0) 1 1 Tryz.underlying119 hi hz0 hz1 hz2 rfl (by decide) v l.length (bs l) hs (hown.alloc _) ⟨w.heap.size,0,none⟩ 1 1 [.int .u8 (c.toNat:Int)] hx rfl ?_ ?_ ?_ ?_ ?_ ?_
 · intro j u hj
   match j,hj with
   | 0,hj=>simp at hj;subst hj;simp[Addr.add]
 · intro u hu;simp at hu;subst hu;rfl
 · unfold maxLen;omega
 · omega
 · simp;omega
 · intro v' w' h1 h2 _
   refine h v' w' ?_ ?_
   · unfold OwnB;rw[bs_snoc,List.length_append];exact h1
   · refine((Below.refl base w).alloc hbase (.cells #[.int .u8 (c.toNat:Int)] 5)).grown h2 (by simp;omega) ?_
     intro k hk
     exact(World.ownsRow.lt hown k hk).1
theorem text_of (w:World)(base:Nat)(v:Value)(l:List UInt8)(hown:OwnB w base v l):
 (convert 119 9 v).run Tryz.prog w= .ok (.string ⟨l.toArray⟩) w:=by
 rcases hown.2 with⟨rfl,hn⟩ | ⟨g,cap,cur,hv,_,hg,hle,_,hsz,htk⟩
 · obtain rfl:=List.eq_nil_of_length_eq_zero hn
   exact run_convert_bytes_nil w 119 5 Tryz.underlying119 Tryz.underlying5 0 0 9 Tryz.underlying9
 · have hc:=World.ownsRow.cells hown (g:=g) (by rw[hv];rfl)
   subst hv
   refine run_convert_bytes_back w _ _ 5 ⟨g,0,none⟩ cap l Tryz.underlying119 Tryz.underlying5 Tryz.underlying9 ?_
   intro j hj
   refine hc j _ ?_
   simp[bs,hj]
theorem below_grow {B:Nat}{a b c:World}(h:Below B a b)(k:Below B b c):Below B a c:=h.trans k
end Go.Proofs.YtlnhaajjoplafaaGreatDoor
