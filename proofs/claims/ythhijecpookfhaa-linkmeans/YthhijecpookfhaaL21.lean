import Derived.Test.YthhijecpookfhaaL4
import Derived.Test.YthhijecpookfhaaL16
import Derived.Test.YthhijecpookfhaaL10
set_option linter.unusedVariables false
set_option maxHeartbeats 12000000
namespace Go.Proofs.Ythhijecpookfhaa
open Go.RowKit
set_option linter.unusedSimpArgs false
set_option maxRecDepth 100000
def usl (a b:Ui)(s:ByteArray):Ui:=if s=sQr then b else a
def putK (p:Po)(a b:Ui)(k:Nat):List Nd:=((slL p).take k).foldl (fun e s=>putE s [nEn (usl a b s)] e) (poE p)
theorem usl_p (a b:Ui):usl a b sQp=a:=if_neg (by decide)
theorem usl_r (a b:Ui):usl a b sQr=b:=if_pos rfl
theorem pof_who {p:Po}{a:Ui}(h:pof p=0)(h2:fif p.who a=0):pof ⟨p.nm,p.fb,fil p.who a,p.act,p.what,p.cs⟩=0:=by
 obtain⟨g1,g2,g3,g4,g5,g6⟩:=pof_ways h
 unfold pof
 simp only
 rw[if_pos g1,fil_ok g2 h2,g3,g4,if_pos (by rfl),if_neg (by omega),g6]
theorem pof_what {p:Po}{a:Ui}(h:pof p=0)(h2:fif p.what a=0):pof ⟨p.nm,p.fb,p.who,p.act,fil p.what a,p.cs⟩=0:=by
 obtain⟨g1,g2,g3,g4,g5,g6⟩:=pof_ways h
 unfold pof
 simp only
 rw[if_pos g1,g2,g3,fil_ok g4 h2,if_pos (by rfl),if_neg (by omega),g6]
theorem len_who (p:Po)(a:Ui):(poE ⟨p.nm,p.fb,fil p.who a,p.act,p.what,p.cs⟩).length=(poE p).length:=by
 unfold poE poP andsL
 simp only[List.length_append,List.flatten_cons,fil_len]
theorem len_what (p:Po)(a:Ui):(poE ⟨p.nm,p.fb,p.who,p.act,fil p.what a,p.cs⟩).length=(poE p).length:=by
 unfold poE poP andsL
 simp only[List.length_append,List.flatten_cons,fil_len]
theorem uf_slot {s:Sco}{u:Ui}(h:hsl s=true)(h2:fif s u=0):uf u=0:=by unfold fif at h2;rw[h,if_pos rfl]at h2;exact h2
theorem pf_slot {e:List Nd}{u:Ui}{s:ByteArray}(h1:xfault e=0)(h2:uf u=0)(h3:(putE s [nEn u] e).length≤200):pfault e [nEn u] s=0:=by
 unfold pfault
 rw[if_pos h1,if_pos (lk_ent h2),if_neg (by omega)]
theorem putK_ok {p:Po}{a b:Ui}(h:lkf p a b=0)(hl:(poE p).length≤200):
 (∀k (hk:k<(slL p).length),((slL p)[k]=sQp∨(slL p)[k]=sQr)∧pfault (putK p a b k) [nEn (usl a b (slL p)[k])] (slL p)[k]=0∧putK p a b (k+1)=putE (slL p)[k] [nEn (usl a b (slL p)[k])] (putK p a b k))∧putK p a b (slL p).length=poE (lkP p a b):=by
 obtain⟨h1,h2,h3⟩:=lkf_ways h
 obtain⟨_,_,_,_,_,g6⟩:=pof_ways h1
 have hx:=lk_po h1 hl
 unfold putK
 cases e1:hsl p.who with
 | false=>
   cases e2:hsl p.what with
   | false=>
     have e:slL p=[]:=by unfold slL;rw[e1,e2];rfl
     rw[e]
     refine⟨fun k hk=>by simp at hk,?_⟩
     unfold lkP
     rw[fil_none e1,fil_none e2]
     rfl
   | true=>
     have e:slL p=[sQr]:=by unfold slL;rw[e1,e2];rfl
     rw[e]
     have hp:=put_what g6 b e2
     refine⟨fun k hk=>?_,?_⟩
     · have:k=0:=by simp at hk;omega
       subst this
       refine⟨.inr rfl,?_,rfl⟩
       show pfault (poE p) [nEn (usl a b sQr)] sQr=0
       rw[usl_r]
       exact pf_slot hx (uf_slot e2 h3) (by rw[hp,len_what];exact hl)
     · show putE sQr [nEn (usl a b sQr)] (poE p)=_
       rw[usl_r,hp]
       unfold lkP
       rw[fil_none e1]
 | true=>
   have hp:=put_who g6 a e1
   cases e2:hsl p.what with
   | false=>
     have e:slL p=[sQp]:=by unfold slL;rw[e1,e2];rfl
     rw[e]
     refine⟨fun k hk=>?_,?_⟩
     · have:k=0:=by simp at hk;omega
       subst this
       refine⟨.inl rfl,?_,rfl⟩
       show pfault (poE p) [nEn (usl a b sQp)] sQp=0
       rw[usl_p]
       exact pf_slot hx (uf_slot e1 h2) (by rw[hp,len_who];exact hl)
     · show putE sQp [nEn (usl a b sQp)] (poE p)=_
       rw[usl_p,hp]
       unfold lkP
       rw[fil_none e2]
   | true=>
     have e:slL p=[sQp,sQr]:=by unfold slL;rw[e1,e2];rfl
     rw[e]
     have hq:=put_what (p:=⟨p.nm,p.fb,fil p.who a,p.act,p.what,p.cs⟩) g6 b e2
     have hx2:=lk_po (pof_who h1 h2) (by rw[len_who];exact hl)
     refine⟨fun k hk=>?_,?_⟩
     · have hk2:k=0∨k=1:=by simp at hk;omega
       rcases hk2 with rfl | rfl
       · refine⟨.inl rfl,?_,rfl⟩
         show pfault (poE p) [nEn (usl a b sQp)] sQp=0
         rw[usl_p]
         exact pf_slot hx (uf_slot e1 h2) (by rw[hp,len_who];exact hl)
       · refine⟨.inr rfl,?_,rfl⟩
         show pfault (putE sQp [nEn (usl a b sQp)] (poE p)) [nEn (usl a b sQr)] sQr=0
         rw[usl_r,usl_p,hp]
         exact pf_slot hx2 (uf_slot e2 h3) (by rw[hq,len_what (p:=⟨p.nm,p.fb,fil p.who a,p.act,p.what,p.cs⟩),len_who];exact hl)
     · show putE sQr [nEn (usl a b sQr)] (putE sQp [nEn (usl a b sQp)] (poE p))=_
       rw[usl_r,usl_p,hp,hq]
       rfl
theorem lk_entOf (u:Ui)(w:World)(hu:UOk u):
 Calls Try.prog 9 #[.agg #[.string u.t,.string u.i]] w fun e w'=>(∃q c,e= .returned (.slice q 1 c)∧AK0 w' [nEn u] q c)∧Below w.heap.size w w':=by
 have hwf:(nEn u).wf:=⟨hu.1,hu.2,by show(0:Int)≤9223372036854775807;omega⟩
 have H1:=fun W (B:Nat) (hB:B=W.heap.size) W' hb=>one_newN (w:=W) (W':=W') (nEn u) hwf hB hb
 go_enter Try.func9,Try.ntmps9
 go_wp2
 go_ret
 obtain⟨q,c,e,hA⟩:=H1 (w.alloc (.cells #[.string u.t,.string u.i] 23)) (w.heap.size+1) (by simp) _ (Below.refl _ _)
 cases e
 exact⟨⟨_,_,rfl,hA⟩,kqx⟩
end Go.Proofs.Ythhijecpookfhaa
