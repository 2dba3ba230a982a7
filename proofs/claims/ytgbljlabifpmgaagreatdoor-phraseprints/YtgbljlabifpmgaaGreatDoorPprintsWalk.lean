import Derived.Test.YtgbljlabifpmgaaGreatDoorP30
import Derived.Test.YtgbljlabifpmgaaGreatDoorP29
import Derived.Test.YtgbljlabifpmgaaGreatDoorP13
set_option linter.unusedVariables false
set_option maxHeartbeats 12000000
namespace Go.Proofs.YtgbljlabifpmgaaGreatDoor
open Go.RowKit
set_option maxRecDepth 100000
theorem fM_wf:∀x∈fM,x.wf:=by intro x hx;simp only[fM,List.mem_cons,List.not_mem_nil,or_false]at hx;rcases hx with rfl | rfl<;>first | exact⟨Nat.zero_le _,Nat.zero_le _,by show(0:Int)≤_;decide⟩ | exact num_wf (by decide)
theorem fM_64:∀x∈fM,n64 x:=by
 intro x hx
 simp only[fM,List.mem_cons,List.not_mem_nil,or_false]at hx
 rcases hx with rfl | rfl<;>first | (intro h;exact absurd h (by decide)) | (intro _;exact⟨by decide,by decide⟩)
theorem print_fM:printL fM= .ok (wM.map at0):=by
 unfold printL
 rw[if_pos xfault_fM,wrd_fM,if_neg (by decide)]
theorem printL_err {e:List Nd}{n:Int}(h:printL e= .error n):n≠0:=by
 unfold printL at h
 split at h
 · split at h
   · injection h with h;subst h;decide
   · cases h
 · rename_i hx;injection h with h;subst h;exact hx
theorem phrasePrints_true (e:List Nd)(p:Option Addr)(c:Nat)(w:World)(h:NL w p e)(hl:e.length≤maxLen)(hN:∀x∈e,n64 x)(hg:ErrVar w)(ht:Tab w):
 Calls Tryz.prog 3 #[.slice p e.length c] w fun en w'=>en= .returned (.bool true)∧Below w.heap.size w w':=by
 go_enter Tryz.func3,Tryz.ntmps3
 go_wp2_with fail
 refine(num_fn _ _).mono ?_
 rintro en w1 ⟨rfl,hb1⟩
 go_wp2_with fail
 refine(print_arg fM 2 rfl (some ⟨w1.heap.size,0,none⟩) 2 _ (NL.lit w1 fM _ fM_wf rfl (by decide)) (by unfold maxLen;decide) (ht.up (qba hb1 _)) fM_64 _ print_fM).mono ?_
 rintro en w4 ⟨⟨q4,c4,rfl,hk4,hc1,hc2⟩,hb4'⟩
 have hb4:=qbt (qba hb1 _) hb4'
 clear hb1 hb4'
 have hlw:(wM.map at0).length=4:=rfl
 have HQ:=quick_any ⟨#[45,40,53,41]⟩ wM w4 (by decide) read_wM
 have hlk:wM.length=4:=rfl
 rw[hlk]at HQ
 rw[hlw]
 go_wp2_with fail
 refine HQ.mono ?_
 rintro en w5 ⟨⟨q5,d5,rfl,hk5,hd1,hd2⟩,hb5'⟩
 have hb5:=qbt hb4 hb5'
 have hk6:=hk4.up hb5'
 clear hb4 hb5' hk4
 go_wp2_with fail
 refine(sameTok_n (wM.map at0) 4 rfl q4 q5 c4 d5 w5 hk6 hk5 (by decide)).mono ?_
 rintro en w6 ⟨rfl,hb6'⟩
 have hb6:=qbt hb5 hb6'
 clear hb5 hb6' hk5 hk6 HQ hlw hlk
 have HPR:=refPrinted_any e p c w6 (h.up hb6) hl hN
 have HPG:=fun w7 (hb:Below w6.heap.size w6 w7)=>print_arg e _ rfl p c w7 ((h.up hb6).up hb) hl ((ht.up hb6).up hb) hN _ rfl
 have hg6:=ev_up hg hb6
 clear h ht hg hN
 cases hR:printL e with
 | error n=>
   have hn:=printL_err hR
   rw[hR]at HPR HPG
   have HEr:∀w7,Below w6.heap.size w6 w7→Calls Tryz.prog 9 #[.iface 33 (.int .i64 n),.int .i64 n] w7 fun en w'=>en= .returned (.bool true)∧Below w7.heap.size w7 w':=by
    intro w7 hb
    have:=toldE_any n n w7 (ev_up hg6 hb)
    rw[eV_not hn]at this
    simpa using this
   clear hR hg6
   go_wp2_with fail
   refine HPR.mono ?_
   rintro en w7 ⟨e7,hb7⟩
   have e7':_=_:=e7
   subst e7'
   clear e7
   go_wp2_with fail
   refine(HPG _ hb7).mono ?_
   rintro en w8 ⟨e8,hb8'⟩
   have e8':_=_:=e8
   subst e8'
   clear e8
   have hb8:=qbt hb7 hb8'
   go_wp2_with fail
   refine(HEr _ hb8).mono ?_
   rintro en w9 ⟨rfl,hb9'⟩
   have hb9:=qbt hb8 hb9'
   go_wp2_with fail
   refine(sameTok_n [] 0 rfl none none 0 0 w9 (.inl rfl) (.inl rfl) (by decide)).mono ?_
   rintro en wa ⟨rfl,hba'⟩
   have hba:=qbt hb6 (qbt hb9 hba')
   go_wp2
   go_ret
   exact⟨rfl,hba⟩
 | ok ts=>
   rw[hR]at HPR HPG
   have hts:=(printL_ok hR).2.2
   have HEr:∀w7,Below w6.heap.size w6 w7→Calls Tryz.prog 9 #[.nilIface,.int .i64 0] w7 fun en w'=>en= .returned (.bool true)∧Below w7.heap.size w7 w':=by
    intro w7 hb
    have:=toldE_any 0 0 w7 (ev_up hg6 hb)
    rw[eV_nil rfl]at this
    simpa using this
   clear hR hg6
   go_wp2_with fail
   refine HPR.mono ?_
   rintro en w7 ⟨⟨q7,c7,rfl,hk7⟩,hb7⟩
   go_wp2_with fail
   refine(HPG _ hb7).mono ?_
   rintro en w8 ⟨⟨q8,c8,rfl,hk8,_,_⟩,hb8'⟩
   have hb8:=qbt hb7 hb8'
   replace hk7:=hk7.up hb8'
   go_wp2_with fail
   refine(HEr _ hb8).mono ?_
   rintro en w9 ⟨rfl,hb9'⟩
   have hb9:=qbt hb8 hb9'
   replace hk7:=hk7.up hb9'
   replace hk8:=hk8.up hb9'
   go_wp2_with fail
   refine(sameTok_n ts _ rfl q8 q7 c8 c7 w9 hk8 hk7 hts).mono ?_
   rintro en wa ⟨rfl,hba'⟩
   have hba:=qbt hb6 (qbt hb9 hba')
   go_wp2
   go_ret
   exact⟨rfl,hba⟩
end Go.Proofs.YtgbljlabifpmgaaGreatDoor
