import Derived.Test.YtnbkfggmpiccjaaGreatDoorE47
import Derived.Test.YtnbkfggmpiccjaaGreatDoorE44
import Derived.Test.YtnbkfggmpiccjaaGreatDoorE25
set_option linter.unusedVariables false
set_option maxHeartbeats 12000000
namespace Go.Proofs.YtnbkfggmpiccjaaGreatDoor
open Go.RowKit
set_option maxRecDepth 100000
theorem g2_of {W:World}{B:Nat}{u v:Value}{T:TypeId}(hh:W.heap[B]? =some (.cells #[u,v] T (0,0))):G2 W B u v:=⟨(Array.getElem?_eq_some_iff.1 hh).1,by simp[World.cell?, hh],by simp[World.cell?, hh]⟩
theorem gret_told {R:Except Int (List Nd)}{n:Int}{en:Ending}{w:World}(h:GRet R en w)(hR:R= .error n):en= .returned (.agg #[.slice none 0 0,.int .i64 n]):=by subst hR;exact h
theorem evalues_walk (es:List En)(ps:Option Addr)(cs:Nat)(q:Rq)(pq:Option Addr)(cq:Nat)(e:List Nd)(pe:Option Addr)(ce:Nat)(w:World)
 (ha:EvArg w es ps q pq cq) (he:LArg w e e.length pe ce):
 Calls Tryz.prog 3 #[.slice ps es.length cs,reqV q pq cq,.slice pe e.length ce] w fun en w'=>en= .returned (.bool true)∧Below w.heap.size w w':=by
 have hem:e.length≤maxLen:=Nat.le_trans he.le he.cm
 have HV:=fun w1 (h1:WArg es ps q pq cq e pe w1)=>refValue_any es ps cs q pq cq e pe ce w1 h1 hem ha.esN ha.cxN he.num
 have HU:=fun w1 (h1:EvArg w1 es ps q pq cq) (h2:LArg w1 e e.length pe ce)=>evalue_arg cs w1 h1 h2 rfl
 obtain⟨W,hW⟩:∃W,W=w.alloc (.cells #[.string q.who.t,.string q.who.i,.string q.act.t,.string q.act.i,.string q.what.t,.string q.what.i,.slice pq q.cx.length cq] 27):=⟨_,rfl⟩
 have hb_0:Below w.heap.size w W:=by rw[hW];exact(Below.refl _ _).alloc (Nat.le_refl _) _
 have hq_0:QB W w.heap.size q pq cq:=by rw[hW];exact QB.new w q pq cq
 have ha_0:=ha.up hb_0
 have he_0:LArg W e e.length pe ce:=⟨he.len,he.nl.up hb_0,he.le,he.cm,he.num⟩
 clear ha he
 unfold reqV at *
 cases hR:valueL es q e with
 | error n=>
   have hn:=valueL_err hR
   have HT:=fun w1 h1=>toldE_any n n w1 h1
   rw[eV_not hn,show(n == n)=true by simp]at HT
   have HS:=fun w1=>sameO (a:=[]) (n:=0) rfl (p:=none) (q:=none) 0 0 w1 (.inl rfl) (.inl rfl) (by omega)
   rw[hR]at HV HU
   clear hR hn
   obtain⟨x0,x1,x2,x3,x4,x5,x6⟩:=hq_0.cells
   go_enter Tryz.func3,Tryz.ntmps3
   go_wp2_with fail
   rw[←hW]
   refine(HV _ ⟨ha_0.el,ha_0.rq,he_0.nl⟩).mono ?_
   rintro _ w1 ⟨rfl,hbb⟩
   clear x0 x1 x2 x3 x4 x5 x6 hW
   have hbV:Below w1.heap.size w1 (w1.alloc (.cells #[.slice none 0 0,.int .i64 n] 30)):=(Below.refl _ _).alloc (Nat.le_refl _) _
   have hh:(w1.alloc (.cells #[.slice none 0 0,.int .i64 n] 30)).heap[w1.heap.size]? =some (.cells #[.slice none 0 0,.int .i64 n] 30 (0,0)):=new_at rfl
   have hg_1:G2 (w1.alloc (.cells #[.slice none 0 0,.int .i64 n] 30)) w1.heap.size (.slice none 0 0) (.int .i64 n):=g2_of hh
   clear hh
   have hb_1:=qbt (qbt hb_0 hbb) hbV
   have hq_1:=(hq_0.up hbb).up hbV
   have ha_1:=(ha_0.up hbb).up hbV
   have he_1:LArg (w1.alloc (.cells #[.slice none 0 0,.int .i64 n] 30)) e e.length pe ce:=⟨he_0.len,(he_0.nl.up hbb).up hbV,he_0.le,he_0.cm,he_0.num⟩
   clear hbb hbV hb_0 hq_0 ha_0 he_0
   obtain⟨x0,x1,x2,x3,x4,x5,x6⟩:=hq_1.cells
   obtain⟨g0,g1⟩:=hg_1.cells
   go_wp2_with fail
   refine(HU _ ha_1 he_1).mono ?_
   rintro _ w2 ⟨⟨v,f,rfl,rfl,rfl⟩,hbb⟩
   clear x0 x1 x2 x3 x4 x5 x6 g0 g1
   have hb_2:=qbt hb_1 hbb
   have hg_2:=hg_1.up hbb
   have her:=(ha_1.up hbb).er
   clear hbb ha_1 he_1 hq_1 hg_1 hb_1
   obtain⟨g0,g1⟩:=hg_2.cells
   go_wp2_with fail
   refine(HT _ her).mono ?_
   rintro _ w3 ⟨rfl,hbb⟩
   clear g0 g1
   have hb_3:=qbt hb_2 hbb
   have hg_3:=hg_2.up hbb
   obtain⟨g0,g1⟩:=hg_3.cells
   go_wp2_with fail
   refine(HS _).mono ?_
   rintro _ w4 ⟨rfl,hbb⟩
   have hb_4:=qbt hb_3 hbb
   go_wp2_with fail
   go_ret
   exact⟨rfl,hb_4⟩
 | ok a=>
   have HT:=fun w1 h1=>toldE_any 0 0 w1 h1
   rw[eV_zero,show((0:Int) == 0)=true from rfl]at HT
   rw[hR]at HV HU
   clear hR
   obtain⟨x0,x1,x2,x3,x4,x5,x6⟩:=hq_0.cells
   go_enter Tryz.func3,Tryz.ntmps3
   go_wp2_with fail
   rw[←hW]
   refine(HV _ ⟨ha_0.el,ha_0.rq,he_0.nl⟩).mono ?_
   rintro _ w1 ⟨⟨gq,gc,rfl,hv_1⟩,hbb⟩
   clear x0 x1 x2 x3 x4 x5 x6 hW
   have hbV:Below w1.heap.size w1 (w1.alloc (.cells #[.slice gq a.length gc,.int .i64 0] 30)):=(Below.refl _ _).alloc (Nat.le_refl _) _
   have hh:(w1.alloc (.cells #[.slice gq a.length gc,.int .i64 0] 30)).heap[w1.heap.size]? =some (.cells #[.slice gq a.length gc,.int .i64 0] 30 (0,0)):=new_at rfl
   have hg_1:G2 (w1.alloc (.cells #[.slice gq a.length gc,.int .i64 0] 30)) w1.heap.size (.slice gq a.length gc) (.int .i64 0):=g2_of hh
   clear hh
   have hb_1:=qbt (qbt hb_0 hbb) hbV
   have hq_1:=(hq_0.up hbb).up hbV
   have ha_1:=(ha_0.up hbb).up hbV
   have hv_2:=hv_1.up hbV
   have he_1:LArg (w1.alloc (.cells #[.slice gq a.length gc,.int .i64 0] 30)) e e.length pe ce:=⟨he_0.len,(he_0.nl.up hbb).up hbV,he_0.le,he_0.cm,he_0.num⟩
   have hal:=hv_1.is.len
   clear hbb hbV hb_0 hq_0 ha_0 he_0 hv_1
   obtain⟨x0,x1,x2,x3,x4,x5,x6⟩:=hq_1.cells
   obtain⟨g0,g1⟩:=hg_1.cells
   go_wp2_with fail
   refine(HU _ ha_1 he_1).mono ?_
   rintro _ w2 ⟨⟨v,f,rfl,q2,c2,rfl,rfl,hA⟩,hbb⟩
   clear x0 x1 x2 x3 x4 x5 x6 g0 g1
   have hb_2:=qbt hb_1 hbb
   have hg_2:=hg_1.up hbb
   have hv_3:=hv_2.up hbb
   have her:=(ha_1.up hbb).er
   clear hbb ha_1 he_1 hq_1 hg_1 hb_1 hv_2
   obtain⟨g0,g1⟩:=hg_2.cells
   go_wp2_with fail
   refine(HT _ her).mono ?_
   rintro _ w3 ⟨rfl,hbb⟩
   clear g0 g1
   have hb_3:=qbt hb_2 hbb
   have hg_3:=hg_2.up hbb
   have HS:=sameO rfl c2 gc w3 (hA.up hbb).nl (hv_3.up hbb).nl (by omega)
   obtain⟨g0,g1⟩:=hg_3.cells
   generalize a.length=n at *
   go_wp2_with fail
   refine HS.mono ?_
   rintro _ w4 ⟨rfl,hbb⟩
   have hb_4:=qbt hb_3 hbb
   go_wp2_with fail
   go_ret
   exact⟨rfl,hb_4⟩
end Go.Proofs.YtnbkfggmpiccjaaGreatDoor
