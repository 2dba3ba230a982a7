import Derived.Test.YtgbljlabifpmgaaGreatDoorP21
import Derived.Laws.CopyRow
import Derived.Lib.AppendZerosOnto
import Derived.Lib.Overlaps
import Derived.Laws.IdiomCopy
set_option linter.unusedVariables false
set_option maxHeartbeats 12000000
namespace Go.Proofs.YtgbljlabifpmgaaGreatDoor
open Go.RowKit
theorem copy_row3 (w:World)(dT sT ty elem:TypeId)(g o dLen dCap:Nat)(a:Addr)(sLen sCap n:Nat)(cur:Array Value)(t:TypeId)(cs:List Value)
 (hu:Tryz.prog.underlying dT=some (.slice elem)) (hs:(Tryz.prog.info? elem).map (·.size)=some 3)
 (hg:w.heap[g]? =some (.cells cur t (0,0))) (hn:n=Nat.min sLen dLen) (hc:cs.length=n*3)
 (hsrc:∀j v,cs[j]? =some v→w.cell? (a.add j)=some v) (hfit:o+cs.length≤cur.size) (h1:∀v∈cs,v.oneCell'=true):
 (Builtin.copy_ #[dT,sT] ty #[.slice (some ⟨g,o,none⟩) dLen dCap,.slice (some a) sLen sCap]).run Tryz.prog w=
  .ok (goInt n) (w.setRow g (cur.toList.take o++cs++cur.toList.drop (o+cs.length)).toArray):=by
 have hl:=run_loadCells_list (P:=Tryz.prog) w a cs hsrc
 have hst:=run_storeCells_at Tryz.prog g o t cs 0 cur w hg (by simpa using hfit) h1
 cases hq:Tryz.prog.info? elem with
 | none=>simp[hq]at hs
 | some i=>
   have hi:i.size=3:=by simpa[hq]using hs
   rw[hc]at hl
   simp[Builtin.copy_,run_underlying hu,Builtin.lenOf,Builtin.firstCells,sizeOf,typeInfo,hq,hi,←hn,hl,hst]
theorem row_shift (C X T C1 C2:List Value)(a:Nat)(h1:C1=C.take (a+T.length)++X.drop a++C.drop (a+T.length+(X.drop a).length))(h2:C2=C1.take a++T++C1.drop (a+T.length))(hX:C.take X.length=X)(ha:a≤X.length)(hl:X.length+T.length≤C.length):
 C1.length=C.length∧C2.length=C.length∧C2.take (X.length+T.length)=X.take a++T++X.drop a:=by
 have e0:(C.take (a+T.length)).length=a+T.length:=by rw[List.length_take];omega
 have e1:C1.length=C.length:=by
  rw[h1]
  simp only[List.length_append,e0,List.length_drop];omega
 have e2:C1.take a=X.take a:=by
  rw[h1,List.append_assoc,List.take_append_of_le_length (by omega),List.take_take,Nat.min_eq_left (by omega)]
  rw[←hX,List.take_take,Nat.min_eq_left ha]
 have e3:C1.drop (a+T.length)=X.drop a++C.drop (a+T.length+(X.drop a).length):=by
  rw[h1,List.append_assoc,List.drop_append_of_le_length (by omega),List.drop_of_length_le (by omega),List.nil_append]
 have e4:C2=(X.take a++T++X.drop a)++C.drop (a+T.length+(X.drop a).length):=by
  rw[h2,e2,e3];simp
 have e5:(X.take a++T++X.drop a).length=X.length+T.length:=by
  simp only[List.length_append,List.length_take,List.length_drop];omega
 refine⟨e1,?_,?_⟩
 · rw[e4,List.length_append,e5,List.length_drop,List.length_drop];omega
 · rw[e4,←e5];exact List.take_left
theorem row_grow (R X T C1 C2:List Value)(a:Nat)(h1:C1=R.take a++T++R.drop (a+T.length))(h2:C2=C1.take (a+T.length)++X.drop a++C1.drop (a+T.length+(X.drop a).length))(hX:R.take a=X.take a)(ha:a≤X.length)(hl:X.length+T.length≤R.length):
 C1.length=R.length∧C2.length=R.length∧C2.take (X.length+T.length)=X.take a++T++X.drop a:=by
 have e0:(R.take a).length=a:=by rw[List.length_take];omega
 have e1:C1.length=R.length:=by
  rw[h1]
  simp only[List.length_append,e0,List.length_drop];omega
 have e2:C1.take (a+T.length)=X.take a++T:=by
  rw[h1,List.take_left' (by rw[List.length_append,e0]),hX]
 have e5:(X.take a++T++X.drop a).length=X.length+T.length:=by
  simp only[List.length_append,List.length_take,List.length_drop];omega
 have e4:C2=(X.take a++T++X.drop a)++C1.drop (a+T.length+(X.drop a).length):=by
  rw[h2,e2]
 refine⟨e1,?_,?_⟩
 · rw[e4,List.length_append,e5,List.length_drop,List.length_drop,e1];omega
 · rw[e4,←e5];exact List.take_left
theorem tcells_take:∀(L:List Tk) (i:Nat),tcells (L.take i)=(tcells L).take (i*3)
 | [],i=>by simp[tcells]
 | x::r,0=>by simp[tcells]
 | x::r,i+1=>by
   have e:(i+1)*3=i*3+1+1+1:=by omega
   rw[e]
   simp[tcells,tcells_take r i]
theorem tcells_drop:∀(L:List Tk) (i:Nat),tcells (L.drop i)=(tcells L).drop (i*3)
 | [],i=>by simp[tcells]
 | x::r,0=>by simp[tcells]
 | x::r,i+1=>by
   have e:(i+1)*3=i*3+1+1+1:=by omega
   rw[e]
   simp[tcells,tcells_drop r i]
theorem tcells_one:∀(L:List Tk),∀v∈tcells L,v.oneCell'=true
 | [],v,h=>by simp[tcells]at h
 | x::r,v,h=>by
   simp only[tcells,List.mem_cons]at h
   rcases h with rfl | rfl | rfl | h
   · rfl
   · rfl
   · rfl
   · exact tcells_one r v h
theorem tcells_ins (L:List Tk)(i:Nat)(t:Tk):tcells (L.take i++t::L.drop i)=(tcells L).take (i*3)++tcells [t]++(tcells L).drop (i*3):=by
 rw[tcells_append,tcells_take,List.append_assoc,←tcells_drop];rfl
end Go.Proofs.YtgbljlabifpmgaaGreatDoor
