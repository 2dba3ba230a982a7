import Derived.Test.YtnbkfggmpiccjaaGreatDoorE3
import Derived.Sort.KeysCollected
set_option linter.unusedVariables false
set_option maxHeartbeats 12000000
namespace Go.Proofs.YtnbkfggmpiccjaaGreatDoor
theorem cb_lt:∀(l m:List UInt8),Lib.compareBytes l m<0→l<m
 | [],[],h=>by simp[Lib.compareBytes]at h
 | [],_::_,_=>List.nil_lt_cons _ _
 | _::_,[],h=>by simp[Lib.compareBytes]at h
 | a::l,b::m,h=>by
   rw[cb_cons]at h
   rw[List.cons_lt_cons_iff]
   split at h
   · exact .inl ‹_›
   · split at h
     · exact absurd h (by decide)
     · rename_i h1 h2
       exact .inr ⟨UInt8.le_antisymm (UInt8.not_lt.1 h2) (UInt8.not_lt.1 h1),cb_lt l m h⟩
def keyL (p:Fd):List UInt8:=p.1.data.toList
theorem keys_sorted {ps:List Fd}(hnd:(ps.map Prod.fst).Nodup){ss:List (List UInt8)}(hp:ss.Perm (ps.map keyL)):ss.mergeSort (fun x y=>decide (x≤y))=(recS ps).map keyL:=by
 have tr:∀a b c:List UInt8,leB a b=true→leB b c=true→leB a c=true:=fun a b c h1 h2=>by simp only[leB,decide_eq_true_eq]at *; exact List.le_trans h1 h2
 have to:∀a b:List UInt8,(leB a b || leB b a)=true:=fun a b=>by simp only[leB,Bool.or_eq_true,decide_eq_true_eq];exact List.le_total a b
 refine List.Perm.eq_of_pairwise (le:=fun a b=>leB a b=true) (fun a b _ _ h1 h2=>?_) (List.pairwise_mergeSort tr to ss) ?_ (((List.mergeSort_perm ss leB).trans hp).trans ((perm_recS ps).map keyL).symm)
 · simp only[leB,decide_eq_true_eq]at h1 h2
   exact List.le_antisymm h1 h2
 · refine List.pairwise_map.2 ((strict_recS ps hnd).imp fun {a b} h=>?_)
   simp only[leB,decide_eq_true_eq]
   exact List.le_of_lt (cb_lt _ _ h)
end Go.Proofs.YtnbkfggmpiccjaaGreatDoor
