import Derived.Test.YtgbljlabifpmgaaGreatDoorP1
import Derived.Test.YtgbljlabifpmgaaGreatDoorP10
import Derived.Test.YtgbljlabifpmgaaGreatDoorP8
import Derived.Shelf.Abstract
set_option linter.unusedVariables false
set_option maxHeartbeats 12000000
namespace Go.Proofs.YtgbljlabifpmgaaGreatDoor
open Go.RowKit
theorem qsc_end (g:Bool):qsc g []=none:=rfl
theorem qsc_quote {c:UInt8}{r:List UInt8}{g:Bool}(h:(c.toNat == 34 && !g)=true):qsc g (c::r)=some ([],0):=by
 unfold qsc;rw[if_pos h]
theorem qsc_go {c:UInt8}{r:List UInt8}{g:Bool}(h:(c.toNat == 34 && !g)=false)(h2:(okb c && (!g || grd c))=true):
 qsc g (c::r)=(qsc (c.toNat == 92 && !g) r).map fun x=>(if (c.toNat == 92 && !g)=true then x.1 else c::x.1,x.2+1):=by
 rw[qsc,if_neg (by rw[h];decide),if_pos h2]
theorem qsc_no {c:UInt8}{r:List UInt8}{g:Bool}(h:(c.toNat == 34 && !g)=false)(h2:(okb c && (!g || grd c))=false):qsc g (c::r)=none:=by
 rw[qsc,if_neg (by rw[h];decide),if_neg (by rw[h2];decide)]
theorem drop_at (s:ByteArray)(k:Nat)(h:k<s.size):s.data.toList.drop k=s[k]::s.data.toList.drop (k+1):=by
 rw[List.drop_eq_getElem_cons (by simpa using h)];rfl
theorem wQuo_none {l:List UInt8}(h:qsc false l=none):wQuo l= .error 1:=by unfold wQuo;rw[h]
theorem wQuo_long {l:List UInt8}{x:List UInt8×Nat}(h:qsc false l=some x)(h2:60<x.1.length):wQuo l= .error 4:=by
 unfold wQuo;rw[h];exact if_pos h2
theorem wQuo_ok {l:List UInt8}{x:List UInt8×Nat}(h:qsc false l=some x)(h2:¬ 60<x.1.length):wQuo l= .ok (3,x.1,x.2+2):=by
 unfold wQuo;rw[h];exact if_neg h2
theorem of_list {a:ByteArray}{l:List UInt8}(h:a.data.toList=l):a=⟨l.toArray⟩:=by
 rw[←h]
theorem head_take (s:ByteArray)(n:Nat):(s.extract 0 n).data.toList=s.data.toList.take n:=by
 rw[Lib.extract_data];simp
theorem below_draws {B:Nat}{a w:World}(h:Below B a w)(n:Nat):Below B a (w.drewN n):=⟨h.os,h.tape,h.output,h.size,h.block⟩
theorem wName_ok {k:Int}{m:Nat}{l:List UInt8}(h:nfault (l.takeWhile namb)=0):wName k m l= .ok (k,l.takeWhile namb,m+(l.takeWhile namb).length):=if_pos h
theorem wName_bad {k:Int}{m:Nat}{l:List UInt8}(h:nfault (l.takeWhile namb)≠0):wName k m l= .error (nfault (l.takeWhile namb)):=if_neg h
theorem tok_kept {w w1:World}(hb:Below (w.alloc (.cells #[.int .i64 0,.string ⟨#[]⟩,.int .i64 0] 43)).heap.size (w.alloc (.cells #[.int .i64 0,.string ⟨#[]⟩,.int .i64 0] 43)) w1):
 w1.cell? ⟨w.heap.size,0,none⟩=some (.int .i64 0)∧w1.cell? ⟨w.heap.size,1,none⟩=some (.string ⟨#[]⟩)∧w1.cell? ⟨w.heap.size,2,none⟩=some (.int .i64 0)∧
 w1.frozen? ⟨w.heap.size,0,none⟩=false∧w1.frozen? ⟨w.heap.size,1,none⟩=false∧w1.frozen? ⟨w.heap.size,2,none⟩=false∧Below w.heap.size w w1:=by
 have q0:∀o,w1.cell? ⟨w.heap.size,o,none⟩=_:=fun o=>hb.cell (p:=⟨w.heap.size,o,none⟩) (by simp)
 have qf:∀o,w1.frozen? ⟨w.heap.size,o,none⟩=_:=fun o=>hb.frozen (p:=⟨w.heap.size,o,none⟩) (by simp)
 exact⟨(q0 0).trans (by simp[go_sem]),(q0 1).trans (by simp[go_sem]),(q0 2).trans (by simp[go_sem]),(qf 0).trans (by simp[go_sem]),(qf 1).trans (by simp[go_sem]),(qf 2).trans (by simp[go_sem]),
  ((Below.refl _ _).alloc (Nat.le_refl _) _).trans (hb.mono (by simp))⟩
end Go.Proofs.YtgbljlabifpmgaaGreatDoor
