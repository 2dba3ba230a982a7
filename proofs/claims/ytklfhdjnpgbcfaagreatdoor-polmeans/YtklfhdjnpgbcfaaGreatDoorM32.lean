import Derived.Test.YtklfhdjnpgbcfaaGreatDoorM2
import Derived.Lib.SlicesCompact
set_option linter.unusedVariables false
set_option maxHeartbeats 12000000
namespace Go.Proofs.YtklfhdjnpgbcfaaGreatDoor
open Go.Lib Go.Sort
theorem cbt_lt:∀(l m:List UInt8),Lib.compareBytes l m<0→l<m
 | [],[],h=>by simp[Lib.compareBytes]at h
 | [],_::_,_=>List.nil_lt_cons _ _
 | _::_,[],h=>by simp[Lib.compareBytes]at h
 | a::l,b::m,h=>by
   rw[cb_cons]at h
   rw[List.cons_lt_cons_iff]
   split at h
   · exact .inl ‹_›
   · split at h
     · exact absurd h (by decide)
     · rename_i h1 h2
       exact .inr ⟨UInt8.le_antisymm (UInt8.not_lt.1 h2) (UInt8.not_lt.1 h1),cbt_lt l m h⟩
theorem cbt_le {l m:List UInt8}(h:l≤m):Lib.compareBytes l m≤0:=by
 by_cases h1:Lib.compareBytes m l<0
 · exact absurd (cbt_lt m l h1) (List.not_lt.2 h)
 · have:=cb_neg l m
   omega
def mkB (l:List UInt8):ByteArray:=⟨l.toArray⟩
theorem cmpB_mk (a b:List UInt8):cmpB (mkB a) (mkB b)=Lib.compareBytes a b:=rfl
theorem compactUpTo_ok (d:Array (List UInt8))(hs:∀i j,i<j→j<d.size→Lib.compareBytes d[i]! d[j]! ≤0):∀m,m≤d.size→
 (compactUpTo d m).Pairwise (fun x y=>Lib.compareBytes x y<0)∧(∀x,x∈compactUpTo d m↔∃j,j<m∧d[j]! =x)
 | 0,_=>by simp[compactUpTo]
 | m+1,hm=>by
   obtain⟨h1,h2⟩:=compactUpTo_ok d hs m (by omega)
   rw[compactUpTo_succ]
   by_cases hk:keeps d m=true
   · rw[if_pos hk]
     refine⟨List.pairwise_append.2 ⟨h1,by simp,fun x hx y hy=>?_⟩,fun x=>?_⟩
     · obtain rfl:y=d[m]! :=by simpa using hy
       obtain⟨j,hj,rfl⟩:=(h2 x).1 hx
       have hm0:m≠0:=by omega
       have hne:d[m]! ≠d[m-1]! :=by
        unfold keeps at hk
        rcases(decide_eq_true_iff.1 hk)with h | h
        · exact absurd h hm0
        · exact h
       have k1:Lib.compareBytes d[m-1]! d[m]! ≤0:=hs (m-1) m (by omega) (by omega)
       have k2:Lib.compareBytes d[m-1]! d[m]! ≠0:=fun e=>hne ((cb_zero _ _).1 e).symm
       have k3:Lib.compareBytes d[j]! d[m-1]! ≤0:=by
        by_cases hjm:j=m-1
        · subst hjm;rw[(cb_zero _ _).2 rfl];exact Int.le_refl _
        · exact hs j (m-1) (by omega) (by omega)
       exact cmpB_is.le_lt (x:=mkB d[j]!) (y:=mkB d[m-1]!) (z:=mkB d[m]!) k3 (by rw[cmpB_mk];omega)
     · rw[List.mem_append,h2,List.mem_singleton]
       constructor
       · rintro(⟨j,hj,rfl⟩ | rfl)
         · exact⟨j,by omega,rfl⟩
         · exact⟨m,by omega,rfl⟩
       · rintro⟨j,hj,rfl⟩
         by_cases hjm:j=m
         · subst hjm;exact .inr rfl
         · exact .inl ⟨j,by omega,rfl⟩
   · rw[if_neg hk,List.append_nil]
     refine⟨h1,fun x=>?_⟩
     rw[h2]
     have hk2:¬(m=0∨d[m]! ≠d[m-1]!):=fun h=>hk (decide_eq_true h)
     have hm0:m≠0:=fun h=>hk2 (.inl h)
     have he:d[m]! =d[m-1]! :=Decidable.not_not.1 (fun h=>hk2 (.inr h))
     constructor
     · rintro⟨j,hj,rfl⟩;exact⟨j,by omega,rfl⟩
     · rintro⟨j,hj,rfl⟩
       by_cases hjm:j=m
       · subst hjm;exact⟨j-1,by omega,he.symm⟩
       · exact⟨j,by omega,rfl⟩
theorem sorted_compact (ss:List (List UInt8)):((Lib.compact (ss.mergeSort fun x y=>decide (x≤y))).map mkB).Pairwise (fun x y=>cmpB x y<0)∧∀z,z∈(Lib.compact (ss.mergeSort fun x y=>decide (x≤y))).map mkB↔z∈ss.map mkB:=by
 have tr:∀a b c:List UInt8,decide (a≤b)=true→decide (b≤c)=true→decide (a≤c)=true:=fun a b c h1 h2=>by simp only[decide_eq_true_eq]at *; exact List.le_trans h1 h2
 have to:∀a b:List UInt8,(decide (a≤b) || decide (b≤a))=true:=fun a b=>by simp only[Bool.or_eq_true,decide_eq_true_eq];exact List.le_total a b
 have hp:=List.pairwise_mergeSort (le:=fun x y:List UInt8=>decide (x≤y)) tr to ss
 have hperm:=List.mergeSort_perm ss (fun x y:List UInt8=>decide (x≤y))
 generalize ss.mergeSort (fun x y=>decide (x≤y))=ts at *
 have hs:∀i j,i<j→j<ts.toArray.size→Lib.compareBytes ts.toArray[i]! ts.toArray[j]! ≤0:=fun i j hij hj=>by
  have hj':j<ts.length:=by simpa using hj
  have hi':i<ts.length:=by omega
  have:=(List.pairwise_iff_getElem.1 hp) i j hi' hj' hij
  simp only[decide_eq_true_eq]at this
  have e1:ts.toArray[i]! =ts[i]:=by simp[hi']
  have e2:ts.toArray[j]! =ts[j]:=by simp[hj']
  rw[e1,e2]
  exact cbt_le this
 obtain⟨h1,h2⟩:=compactUpTo_ok ts.toArray hs ts.length (by simp)
 refine⟨List.pairwise_map.2 h1,fun z=>?_⟩
 have hm:∀x,x∈Lib.compact ts↔x∈ss:=fun x=>by
  rw[←hperm.mem_iff]
  unfold Lib.compact
  rw[h2]
  constructor
  · rintro⟨j,hj,rfl⟩
    have e1:ts.toArray[j]! =ts[j]:=by simp[hj]
    rw[e1];exact List.getElem_mem _
  · intro hx
    obtain⟨j,hj,rfl⟩:=List.mem_iff_getElem.1 hx
    exact⟨j,hj,by simp[hj]⟩
 simp only[List.mem_map]
 exact⟨fun⟨x,hx,e⟩=>⟨x,(hm x).1 hx,e⟩,fun⟨x,hx,e⟩=>⟨x,(hm x).2 hx,e⟩⟩
theorem names_compact (e:List Nd):(Lib.compact (((vars e).map (fun t:ByteArray=>t.data.toList)).mergeSort fun x y=>decide (x≤y))).map mkB=nms e:=by
 obtain⟨h1,h2⟩:=sorted_compact ((vars e).map (fun t:ByteArray=>t.data.toList))
 refine nms_unique h1 (fun z=>?_)
 rw[h2,List.map_map]
 have:(mkB∘fun t:ByteArray=>t.data.toList)=id:=by funext t;rfl
 rw[this,List.map_id]
theorem compact_short (d:Array (List UInt8)):∀m,(compactUpTo d m).length≤m
 | 0=>by simp[compactUpTo]
 | m+1=>by
   rw[compactUpTo_succ,List.length_append]
   have:=compact_short d m
   split<;>simp<;>omega
end Go.Proofs.YtklfhdjnpgbcfaaGreatDoor
