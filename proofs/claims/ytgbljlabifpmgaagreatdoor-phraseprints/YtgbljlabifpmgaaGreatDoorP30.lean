import Derived.Test.YtgbljlabifpmgaaGreatDoorP27
import Derived.Test.YtgbljlabifpmgaaGreatDoorP28
import Derived.Test.YtgbljlabifpmgaaGreatDoorP20
import Derived.Test.YtgbljlabifpmgaaGreatDoorP22
import Derived.Test.YtgbljlabifpmgaaGreatDoorP25
import Derived.Test.YtgbljlabifpmgaaGreatDoorP9
set_option linter.unusedVariables false
set_option maxHeartbeats 12000000
namespace Go.Proofs.YtgbljlabifpmgaaGreatDoor
open Go.RowKit
theorem insOk:InsOk:=by
 intro w B v L i t ho hi hl hB
 rcases ho.2 with⟨rfl,hn⟩ | ⟨g,cap,cur,rfl,hb,hgg,hle,hm,hsz,htk⟩
 · omega
 · by_cases hr:L.length+1≤cap
   · exact ins_room w B L i t g cap cur hb hgg hm hsz htk hi hl hr
   · exact ins_grow w B L i t g cap cur hb hgg hle hsz htk hi hl (by omega)
set_option maxRecDepth 100000
theorem printL_ok {e:List Nd}{ts:List Tk}(h:printL e= .ok ts):xfault e=0∧ts=wrd e∧ts.length≤300:=by
 unfold printL at h
 split at h
 · rename_i hx
   split at h
   · cases h
   · rename_i hl
     injection h with h
     subst h
     exact⟨hx,rfl,by omega⟩
 · cases h
theorem printL_back {e:List Nd}{ts:List Tk}(h:printL e= .ok ts)(hN:∀x∈e,n64 x):parseL ts= .ok e:=by
 obtain⟨hx,rfl,hl⟩:=printL_ok h
 exact parse_print hx hN hl
theorem printL_small {e:List Nd}{ts:List Tk}(h:printL e= .ok ts)(hN:∀x∈e,n64 x):∀t∈ts,t.s.size≤140737488351232:=by
 obtain⟨_,hs,_⟩:=ok_parse (printL_back h hN)
 exact fun t ht=>by
  have h1:=spB_size (hs t ht)
  have h2:t.l.length=t.s.size:=by simp[Tk.l]
  omega
theorem Tab.up {w w':World}(h:Tab w)(hb:Below w.heap.size w w'):Tab w':=by
 refine h.keep (hb.block _ ?_)
 unfold Tab Lib.TabIs World.var? at h
 simp only[Tryz.gPow,Option.bind_some]at h
 rcases Nat.lt_or_ge 1 w.heap.size with h' | h'
 · exact h'
 · rw[Array.getElem?_eq_none h']at h;cases h
theorem print_arg (e:List Nd)(n:Nat)(hn:e.length=n)(p:Option Addr)(c:Nat)(w:World)(h:NL w p e)(hl:e.length≤maxLen)(ht:Tab w)(hN:∀x∈e,n64 x)(R:Except Int (List Tk))(hR:printL e=R):
 Calls Tryz.prog 4 #[.slice p n c] w fun en w'=>PrintE R en w'∧Below w.heap.size w w':=by
 subst hn hR
 exact print_any insOk e p c w h hl ht hN
theorem PrintE.any {R:Except Int (List Tk)}{e:Ending}{w':World}(h:PrintE R e w'):∃q n c v,e= .returned (.tuple #[.slice q n c,v])∧(v= .nilIface∨∃k,v= .iface 33 (.int .i64 k)):=by
 cases R with
 | ok x=>obtain⟨q,cc,rfl,_⟩:=h;exact⟨q,_,cc,_,rfl,.inl rfl⟩
 | error y=>exact⟨none,0,0,_,h,.inr ⟨_,rfl⟩⟩
theorem PrintE.good {R:Except Int (List Tk)}{q:Option Addr}{n c:Nat}{w:World}(h:PrintE R (.returned (.tuple #[.slice q n c,.nilIface])) w):∃ts,R= .ok ts∧n=ts.length∧TKL w q ts∧ts.length≤c∧c≤maxLen:=by
 cases R with
 | ok x=>obtain⟨q',cc,e,h1,h2,h3⟩:=h;cases e;exact⟨x,rfl,rfl,h1,h2,h3⟩
 | error y=>cases h
end Go.Proofs.YtgbljlabifpmgaaGreatDoor
namespace Go.Proofs.YtgbljlabifpmgaaGreatDoor
end Go.Proofs.YtgbljlabifpmgaaGreatDoor
