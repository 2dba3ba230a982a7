import Derived.Test.YtlnhaajjoplafaaGreatDoorT15
import Derived.Test.YtlnhaajjoplafaaGreatDoorT10
import Derived.Maps.OwnOps
set_option linter.unusedVariables false
set_option maxHeartbeats 12000000
namespace Go.Proofs.YtlnhaajjoplafaaGreatDoor
open Go.RowKit Go.Maps Go.WideMaps
set_option linter.unusedSimpArgs false
theorem gb_of {w w':World}(h:Below w.heap.size w w'):w.grownBy w' none:=⟨h.os,h.tape,h.output,h.size,fun i hi _=>h.block i hi⟩
theorem USet.up {w w':World}{b:Nat}{L:List Ui}(h:USet w b L)(k:Below w.heap.size w w'):USet w' b L:=h.kept (gb_of k) (by simp)
theorem EMap.up {w0 w w':World}{b:Nat}{es:List En}(h:EMap w0 w b es)(k:Below w.heap.size w w'):EMap w0 w' b es:=h.kept (gb_of k) (by simp)
theorem zeroUnit (w:World):(zeroValue 120).run Tryz.prog w= .ok (.agg #[]) w:=by kernel_rfl
theorem has_any (b:Nat)(L:List Ui)(u:Ui)(w:World)(hs:USet w b L)(hu:UOk u):
 Calls Tryz.prog 70 #[.map (some b),.agg #[.string u.t,.string u.i]] w fun e w'=>e= .returned (.bool (decide (u∈L)))∧Below w.heap.size w w':=by
 obtain⟨D,h1,h2,_⟩:=hs
 have HD:Hid (Maps.has D (klit u)=decide (u∈L)):=by
  show _=_
  rw[Bool.eq_iff_iff,h2 u hu,decide_eq_true_iff]
 have hown:=h1.alloc (.cells #[.string u.t,.string u.i] 24)
 have hkey:keyOf Tryz.prog 24 (.agg #[.string u.t,.string u.i])=some (klit u):=keyOf_uid hu
 go_enter Tryz.func70,Tryz.ntmps70
 go_wp2_with (at_lookup;refine wpList_lookup_own_unit _ rfl _ _ 100 rfl 24 120 uid_law Tryz.underlying100 (zeroUnit _) b L.length D rfl hown _ _ rfl hkey ?_)
 go_ret
 exact⟨by rw[HD.out];rfl,((Below.refl _ _).alloc (Nat.le_refl _) _).alloc (by simp) _⟩
def uqf (L:List Ui)(u:Ui):Int:=if uf u=0 then(if u∈L then 6 else 0)else uf u
theorem put_err (b:Nat)(L:List Ui)(u:Ui)(w:World)(hs:USet w b L)(hu:UOk u)(hp:uqf L u≠0):
 Calls Tryz.prog 44 #[.map (some b),.agg #[.string u.t,.string u.i]] w fun e w'=>e= .returned (eV (uqf L u))∧Below w.heap.size w w':=by
 by_cases h0:uf u=0
 · have HE:Hid (eV (ufault u.t.data.toList u.i.data.toList)= .nilIface):=eV_nil h0
   have hm:u∈L:=by
    unfold uqf at hp
    rw[if_pos h0]at hp
    by_cases h:u∈L
    · exact h
    · rw[if_neg h]at hp;exact absurd rfl hp
   have HP:Hid (uqf L u=6):=by show _=_;unfold uqf;rw[if_pos h0,if_pos hm]
   have HM:Hid (decide (u∈L)=true):=decide_eq_true hm
   clear h0 hm hp
   go_enter Tryz.func44,Tryz.ntmps44
   go_wp2_with fail
   refine(write_any u.t u.i _ hu.1 hu.2).mono ?_
   rintro e w1 ⟨q,rfl,hb1⟩
   rw[HE.out]
   have hb:Below w.heap.size w w1:=((Below.refl _ _).alloc (Nat.le_refl _) _).trans (hb1.mono (by simp))
   have hc1:∀o,w1.cell? ⟨w.heap.size,o,none⟩=_:=fun o=>hb1.cell (p:=⟨w.heap.size,o,none⟩) (by simp)
   go_wp2_with fail
   refine(has_any b L u _ (hs.up hb) hu).mono ?_
   rintro e w2 ⟨rfl,hb2⟩
   rw[HM.out]
   go_wp2_with fail
   go_ret
   exact⟨by rw[HP.out];rfl,hb.trans (hb2.mono hb.size)⟩
 · have HE:Hid (eV (ufault u.t.data.toList u.i.data.toList)= .iface 70 (.int .i64 (uf u))):=eV_not h0
   have HP:Hid (eV (uqf L u)= .iface 70 (.int .i64 (uf u))):=by
    show _=_
    unfold uqf;rw[if_neg h0];exact eV_not h0
   clear h0 hp
   go_enter Tryz.func44,Tryz.ntmps44
   go_wp2_with fail
   refine(write_any u.t u.i _ hu.1 hu.2).mono ?_
   rintro e w1 ⟨q,rfl,hb1⟩
   rw[HE.out]
   have hb:Below w.heap.size w w1:=((Below.refl _ _).alloc (Nat.le_refl _) _).trans (hb1.mono (by simp))
   go_wp2_with fail
   go_ret
   exact⟨by rw[HP.out];rfl,hb⟩
theorem put_ok (b:Nat)(L:List Ui)(u:Ui)(w:World)(hs:USet w b L)(hu:UOk u)(hp:uqf L u=0)(hl:L.length<1000):
 Calls Tryz.prog 44 #[.map (some b),.agg #[.string u.t,.string u.i]] w fun e w'=>e= .returned .nilIface∧USet w' b (L++[u])∧w.grownBy w' (some b):=by
 have h0:uf u=0:=by
  by_cases h0:uf u=0
  · exact h0
  · unfold uqf at hp;rw[if_neg h0]at hp;exact absurd hp h0
 have hm:u∉L:=fun h=>by unfold uqf at hp;rw[if_pos h0,if_pos h]at hp;cases hp
 have HE:Hid (eV (ufault u.t.data.toList u.i.data.toList)= .nilIface):=eV_nil h0
 have HM:Hid (decide (u∈L)=false):=decide_eq_false hm
 have HN:Hid (u∉L):=hm
 have HS:Hid (USet w b L):=hs
 have hkey:keyOf Tryz.prog 24 (.agg #[.string u.t,.string u.i])=some (klit u):=keyOf_uid hu
 clear h0 hm hp hs
 go_enter Tryz.func44,Tryz.ntmps44
 go_wp2_with fail
 refine(write_any u.t u.i _ hu.1 hu.2).mono ?_
 rintro e w1 ⟨q,rfl,hb1⟩
 rw[HE.out]
 have hb:Below w.heap.size w w1:=((Below.refl _ _).alloc (Nat.le_refl _) _).trans (hb1.mono (by simp))
 have hc1:∀o,w1.cell? ⟨w.heap.size,o,none⟩=_:=fun o=>hb1.cell (p:=⟨w.heap.size,o,none⟩) (by simp)
 go_wp2_with fail
 refine(has_any b L u _ (HS.out.up hb) hu).mono ?_
 rintro e w2 ⟨rfl,hb2⟩
 rw[HM.out]
 have hbb:Below w.heap.size w w2:=hb.trans (hb2.mono hb.size)
 have hz1:w.heap.size<w1.heap.size:=by have:=hb1.size;simp at this;omega
 have hc2:∀o,w2.cell? ⟨w.heap.size,o,none⟩=_:=fun o=>(hb2.cell (p:=⟨w.heap.size,o,none⟩) hz1).trans (hc1 o)
 have HS2:=HS.out.up hbb
 obtain⟨D,h1,h2,h3,h4,h5,h6⟩:=HS2
 have HT:Hid (_∧_):=USet.put (d:=.agg []) h1.isMap (h1.tidy uid_law) h2 h3 h4 h5 h6 hu HN.out
 clear h2 h3 h4 h5 h6
 go_wp2_with (at_mapUpdate;refine wpList_mapUpdate_own _ rfl _ _ _ 100 rfl 24 120 uid_law Tryz.underlying100 _ b L.length D rfl h1 (by unfold maxLen;omega) _ _ (klit u) rfl rfl hkey (.agg []) [] unitElem_mk ?_;intro w3 hown3 hg3)
 go_ret
 refine⟨rfl,⟨_,by simpa using hown3,HT.out⟩,((gb_of hbb).but _).trans hg3⟩
theorem checkUp_any (l:List Ui)(p:Option Addr)(c:Nat)(w:World)(hl:UL w p l)(hc:l.length≤c)(hcm:c≤maxLen)(hu:∀x∈l,UOk x):
 Calls Tryz.prog 45 #[.slice p l.length c] w fun e w'=>e= .returned (eV (ffup l))∧Below w.heap.size w w':=by
 by_cases h6:6<l.length
 · have h':(6:Int)<(l.length:Int):=by omega
   have HF:Hid (ffup l=4):=if_pos h6
   go_enter Tryz.func45,Tryz.ntmps45
   go_wp2_with fail
   go_ret
   exact⟨by rw[HF.out];rfl,Below.refl _ _⟩
 · have h':¬(6:Int)<(l.length:Int):=by omega
   have HF:Hid (ffup l=upf [] l):=if_neg h6
   have HU:Hid (∀x∈l,UOk x):=hu
   have HL:Hid (UL w p l):=hl
   clear hu hl
   have hmm:= @run_makeMap Tryz.prog
   go_enter Tryz.func45,Tryz.ntmps45
   go_wp2_with fail
   go_loopw [14] (fun i wr=>∃k:Nat,k≤l.length∧i= .int .i64 k∧USet wr w.heap.size (l.take k)∧Below w.heap.size w wr∧Hid (upf [] l=upf (l.take k) (l.drop k))) (fun i _=>l.length-(intOf i).toNat)
   case atStart=>exact⟨0,Nat.zero_le _,rfl,by simpa using USet.made w,(Below.refl _ _).alloc (Nat.le_refl _) _,by simp[Hid]⟩
   case round=>
    obtain⟨k,hk,rfl,hset,hnx,HR⟩:=hrel
    by_cases hlt:k<l.length
    · have i1:(k:Int)<(l.length:Int):=by omega
      obtain⟨b,off,rfl,hbl,hc0,hc1⟩:=(HL.out.up hnx).at hlt
      have hou:=HU.out _ (List.getElem_mem hlt)
      have HD:Hid (l.drop k=l[k]::l.drop (k+1)):=List.drop_eq_getElem_cons hlt
      have HT:Hid (l.take (k+1)=l.take k++[l[k]]):=List.take_succ_eq_append_getElem hlt
      generalize l[k]=u at hc0 hc1 hou HD HT
      by_cases hp:uqf (l.take k) u=0
      · have HR2:Hid (upf [] l=upf (l.take (k+1)) (l.drop (k+1))):=by
         show _=_
         rw[HR.out,HD.out,HT.out]
         unfold uqf at hp
         by_cases h0:uf u=0
         · rw[if_pos h0]at hp
           by_cases hm:u∈l.take k
           · rw[if_pos hm]at hp;cases hp
           · conv=>lhs;unfold upf
             rw[if_pos h0,if_neg hm]
         · rw[if_neg h0]at hp;exact absurd hp h0
        have HP:Hid (_=_):=hp
        clear hp
        go_wp2_with fail
        refine(put_ok w.heap.size (l.take k) u _ (hset.up ((Below.refl _ _).alloc (Nat.le_refl _) _)) hou HP.out (by rw[List.length_take];omega)).mono ?_
        rintro e w1 ⟨rfl,hset1,hg1⟩
        go_wp2_with fail
        go_roundw
        case rel=>exact⟨k+1,by omega,by go_num,by rw[HT.out];exact hset1,(hnx.alloc hnx.size _).grown hg1 (by simp;have:=hnx.size;omega) (fun j hj=>by cases hj;exact Nat.le_refl _),HR2⟩
        case measure=>simp[intOf];omega
      · have HR2:Hid (upf [] l=uqf (l.take k) u):=by
         show _=_
         rw[HR.out,HD.out]
         unfold uqf upf at *
         by_cases h0:uf u=0
         · rw[if_pos h0]at hp ⊢
           by_cases hm:u∈l.take k
           · rw[if_pos hm,if_pos h0,if_pos hm]
           · rw[if_neg hm]at hp;exact absurd rfl hp
         · rw[if_neg h0,if_neg h0]
        have HE:Hid (eV (uqf (l.take k) u)= .iface 70 (.int .i64 (uqf (l.take k) u))):=eV_not hp
        have HP:Hid (_≠_):=hp
        clear hp
        go_wp2_with fail
        refine(put_err w.heap.size (l.take k) u _ (hset.up ((Below.refl _ _).alloc (Nat.le_refl _) _)) hou HP.out).mono ?_
        rintro e w1 ⟨rfl,hb1⟩
        rw[HE.out]
        go_wp2_with fail
        go_ret
        exact⟨by rw[HF.out,HR2.out,HE.out];rfl,(hnx.alloc hnx.size _).trans (hb1.mono (by simp;have:=hnx.size;omega))⟩
    · obtain rfl:k=l.length:=by omega
      have i1:¬(l.length:Int)<(l.length:Int):=by omega
      have HR2:Hid (upf [] l=0):=by show _=_;rw[HR.out,List.drop_length];rfl
      go_wp2_with fail
      go_ret
      exact⟨by rw[HF.out,HR2.out];rfl,hnx⟩
theorem zeroEnt (w:World):(zeroValue 102).run Tryz.prog w= .ok (.agg #[.string ⟨#[]⟩,.string ⟨#[]⟩,.slice none 0 0,.slice none 0 0]) w:=by kernel_rfl
theorem EMap.hasNot {w0 w:World}{b:Nat}{es:List En}{D:DataW Value}(h2:∀kl,Maps.has D kl=true→∃e∈es,kl=klit e.u)(h3:∀e∈es,UOk e.u){u:Ui}(hu:UOk u)(hn:∀e∈es,e.u≠u):Maps.has D (klit u)=false:=by
 cases h:Maps.has D (klit u)
 · rfl
 · obtain⟨e,he,hk⟩:=h2 _ h
   exact absurd (klit_inj hu (h3 e he) hk).symm (hn e he)
theorem EMap.look {w0 w:World}{b:Nat}{es:List En}(h:EMap w0 w b es)(hq:Uniq es){u:Ui}(hu:UOk u):
 ∃(s t:ByteArray) (pu:Option Addr) (cu:Nat) (pa:Option Addr) (na ca:Nat),(Instr.lookup 83 (.map (some b)) (.agg #[.string u.t,.string u.i]) false).run Tryz.prog w= .ok (.agg #[.string s,.string t,.slice pu (upsOf es u).length cu,.slice pa na ca]) w∧UL w0 pu (upsOf es u)∧(∀x∈upsOf es u,UOk x)∧(upsOf es u).length≤maxLen:=by
 obtain⟨D,h1,h2,h3⟩:=h
 obtain⟨v,ps,hrun,hv⟩:=h1.lookup uid_law Tryz.underlying83 (zeroEnt w) (zd:=.held _) (zp:=[]) rfl (keyOf_uid hu)
 unfold heldE at hv
 simp only[Option.some.injEq,Prod.mk.injEq]at hv
 rcases Classical.em (∃e∈es,e.u=u)with⟨e,he,rfl⟩ | hn
 · obtain⟨_,_,y,hy,hat⟩:=h3 e he
   rw[hat]at hv
   obtain⟨pu,cu,pa,ca,rfl,k1,k2,k3,k4,k5,k6,_⟩:=hy
   obtain⟨e1,_⟩:=hv
   injection e1 with e1
   subst e1
   rw[upsOf_of_mem hq he]
   exact⟨_,_,pu,cu,pa,_,ca,hrun,k1,k4,Nat.le_trans k5 k6⟩
 · have hn':∀e∈es,e.u≠u:=fun e he q=>hn ⟨e,he,q⟩
   rw[atKey_of_not_has (EMap.hasNot (w0:=w0) (w:=w) (b:=b) h2 (fun e he=>(h3 e he).2.1) hu hn')]at hv
   obtain⟨e1,_⟩:=hv
   injection e1 with e1
   subst e1
   rw[upsOf_none hn']
   exact⟨_,_,none,0,none,0,0,hrun,.inl rfl,by simp,Nat.zero_le _⟩
theorem cell_grown2 {w w':World}{row:Option Nat}(hg:w.grownBy w' row){b:Nat}(hb:b<w.heap.size)(hne:some b≠row)(o:Nat):w'.cell? ⟨b,o,none⟩=w.cell? ⟨b,o,none⟩:=by
 have:=hg.block b hb hne
 simp only[World.cell?, this]
def toCome (U L:List Ui):Nat:=(U.filter (fun x=>decide (x∉L))).length
theorem toCome_le {U L M:List Ui}(h:∀v∈L,v∈M):toCome U M≤toCome U L:=by
 unfold toCome
 rw[←List.countP_eq_length_filter,←List.countP_eq_length_filter]
 refine List.countP_mono_left (fun x _ hx=>?_)
 simp only[decide_eq_true_eq]at hx ⊢
 exact fun q=>hx (h x q)
theorem countP_lt {p q:Ui→Bool}(hm:∀z,q z=true→p z=true){x:Ui}(hp:p x=true)(hq:q x=false):∀U:List Ui,x∈U→U.countP q<U.countP p
 | [],h=>by cases h
 | y::U,h=>by
   have hle:U.countP q≤U.countP p:=List.countP_mono_left (fun z _=>hm z)
   rw[List.countP_cons,List.countP_cons]
   rcases List.mem_cons.1 h with rfl | h
   · rw[hp,hq];simp;omega
   · have ih:=countP_lt hm hp hq U h
     have hy:=hm y
     cases hqy:q y
     · cases hpy:p y<;>simp<;>omega
     · rw[hy hqy];simp;omega
theorem toCome_lt {U L:List Ui}{x:Ui}(hx:x∈U)(hn:x∉L):toCome U (L++[x])<toCome U L:=by
 unfold toCome
 rw[←List.countP_eq_length_filter,←List.countP_eq_length_filter]
 refine countP_lt (fun z hz=>?_) (decide_eq_true hn) (decide_eq_false (by simp)) U hx
 simp only[decide_eq_true_eq]at hz ⊢
 exact fun q=>hz (by simp[q])
structure Climbed (es:List En)(L:List Ui)(u:Ui)(M:List Ui):Prop where
 sub:∀v∈L,v∈M
 frm:∀v∈M,v∈L∨Abv es u v
 ups:∀v∈upsOf es u,v∈M
 closed:∀v∈M,v∉L→∀x∈upsOf es v,x∈M
structure Climbing (es:List En)(L:List Ui)(u:Ui)(k:Nat)(M:List Ui):Prop where
 sub:∀v∈L,v∈M
 frm:∀v∈M,v∈L∨Abv es u v
 ups:∀v∈(upsOf es u).take k,v∈M
 closed:∀v∈M,v∉L→∀x∈upsOf es v,x∈M
theorem Climbing.start (es:List En)(L:List Ui)(u:Ui):Climbing es L u 0 L:=
 ⟨fun _ h=>h,fun _ h=>.inl h,fun v h=>by simp at h,fun v h k=>absurd h k⟩
theorem take_mem {l:List Ui}{k:Nat}(hk:k<l.length){v:Ui}(h:v∈l.take (k+1)):v∈l.take k∨v=l[k]:=by
 rw[List.take_succ_eq_append_getElem hk]at h
 rcases List.mem_append.1 h with h | h
 · exact .inl h
 · exact .inr (by simpa using h)
theorem Climbing.skip {es:List En}{L:List Ui}{u:Ui}{k:Nat}{M:List Ui}(h:Climbing es L u k M)(hk:k<(upsOf es u).length)(hm:(upsOf es u)[k]∈M):Climbing es L u (k+1) M:=
 ⟨h.sub,h.frm,fun v hv=>by
  rcases take_mem hk hv with hv | rfl
  · exact h.ups v hv
  · exact hm,h.closed⟩
theorem Climbing.step {es:List En}{L:List Ui}{u:Ui}{k:Nat}{M N:List Ui}(h:Climbing es L u k M)(hk:k<(upsOf es u).length)(hc:Climbed es (M++[(upsOf es u)[k]]) (upsOf es u)[k] N):Climbing es L u (k+1) N:=by
 have hin:(upsOf es u)[k]∈upsOf es u:=List.getElem_mem hk
 have hsub:∀v∈M,v∈N:=fun v hv=>hc.sub v (by simp[hv])
 refine⟨fun v hv=>hsub v (h.sub v hv),fun v hv=>?_,fun v hv=>?_,fun v hv hn x hx=>?_⟩
 · rcases hc.frm v hv with hv | hv
   · rcases List.mem_append.1 hv with hv | hv
     · exact h.frm v hv
     · rw[List.mem_singleton.1 hv];exact .inr (.one hin)
   · exact .inr (.more hin hv)
 · rcases take_mem hk hv with hv | rfl
   · exact hsub v (h.ups v hv)
   · exact hc.sub _ (by simp)
 · by_cases hvM:v∈M
   · exact hsub x (h.closed v hvM hn x hx)
   · by_cases hve:v=(upsOf es u)[k]
     · subst hve;exact hc.ups x hx
     · exact hc.closed v hv (by simp[hvM,hve]) x hx
theorem Climbing.done {es:List En}{L:List Ui}{u:Ui}{M:List Ui}(h:Climbing es L u (upsOf es u).length M):Climbed es L u M:=
 ⟨h.sub,h.frm,fun v hv=>h.ups v (by rw[List.take_length];exact hv),h.closed⟩
set_option maxRecDepth 100000 in
theorem climb_any (es:List En)(w0:World)(sb fb:Nat)(U:List Ui)(hU:∀u,∀x∈upsOf es u,x∈U)(hq:Uniq es)(hb0:w0.heap.size≤fb)(hne:sb≠fb):
 ∀(n:Nat) (L:List Ui) (u:Ui) (w:World),UOk u→EMap w0 w sb es→USet w fb L→Below w0.heap.size w0 w→toCome U L=n→L.length+n≤500→
 Calls Tryz.prog 110 #[.map (some sb),.agg #[.string u.t,.string u.i],.map (some fb)] w fun e w'=>e= .returned (.tuple #[])∧∃M,Climbed es L u M∧USet w' fb M∧w.grownBy w' (some fb)∧M.length+toCome U M≤L.length+toCome U L:=by
 intro n
 induction n using Nat.strongRecOn with
 | _ n ih=>
 intro L u w hu hmap hset hbw hn hlen
 subst hn
 have IH:Hid (∀_,_):=ih
 have HU:Hid (∀_,_):=hU
 have HQ:Hid (Uniq es):=hq
 obtain⟨s,t,pu,cu,pa,na,ca,hrun,HL,HO,hll⟩:=(hmap.up (w':=w.alloc (.cells #[.string u.t,.string u.i] 24)) ((Below.refl _ _).alloc (Nat.le_refl _) _)).look hq hu
 replace HL:Hid (UL w0 pu (upsOf es u)):=HL
 replace HO:Hid (∀_,_):=HO
 unfold maxLen at hll
 have HC0:Hid (Climbing es L u 0 L):=Climbing.start es L u
 have HX:Hid (∀M,Climbing es L u (upsOf es u).length M→Climbed es L u M):=fun M=>Climbing.done
 have HY:Hid (∀k M,Climbing es L u k M→∀(hk:k<(upsOf es u).length),(upsOf es u)[k]∈M→Climbing es L u (k+1) M):=fun k M h hk=>h.skip hk
 have HZ:Hid (∀k M N,Climbing es L u k M→∀(hk:k<(upsOf es u).length),Climbed es (M++[(upsOf es u)[k]]) (upsOf es u)[k] N→Climbing es L u (k+1) N):=fun k M N h hk=>h.step hk
 have HV:Hid (∀x∈upsOf es u,x∈U):=hU u
 have HS0:Hid (USet w fb L):=hset
 have HM0:Hid (EMap w0 w sb es):=hmap
 clear ih hU hq hset hmap
 generalize upsOf es u=l at *
 have hfd:∀w:World,(Instr.field 102 (.agg #[.string s,.string t,.slice pu l.length cu,.slice pa na ca]) 1).run Tryz.prog w= .ok (.slice pu l.length cu) w:=fun _=>by kernel_rfl
 go_enter Tryz.func110,Tryz.ntmps110
 go_wp2_with fail
 go_loopw [13] (fun i wr=>∃(k:Nat) (M:List Ui),k≤l.length∧i= .int .i64 k∧Hid (Climbing es L u k M)∧USet wr fb M∧w.grownBy wr (some fb)∧M.length+toCome U M≤L.length+toCome U L) (fun i _=>l.length-(intOf i).toNat)
 case atStart=>exact⟨0,L,Nat.zero_le _,rfl,HC0,HS0.out.up ((Below.refl _ _).alloc (Nat.le_refl _) _),World.grownBy_alloc _ _ _,Nat.le_refl _⟩
 case round=>
  obtain⟨k,M,hk,rfl,HC,hset,hgr,hcnt⟩:=hrel
  by_cases hlt:k<l.length
  · have i1:(k:Int)<(l.length:Int):=by omega
    have hbw2:Below w0.heap.size w0 wr:=hbw.grown hgr hbw.size (fun j hj=>by cases hj;exact hb0)
    have HB2:Hid (Below w0.heap.size w0 wr):=hbw2
    have hMp:EMap w0 wr sb es:=HM0.out.kept hgr (fun q=>hne (by simpa using q))
    have HMp:Hid (EMap w0 wr sb es):=hMp
    obtain⟨b,off,rfl,hbl,hc0,hc1⟩:=(HL.out.up hbw2).at hlt
    have hou:=HO.out _ (List.getElem_mem hlt)
    have HXU:Hid (_∈U):=HV.out _ (List.getElem_mem hlt)
    have HSk:Hid (_→_):=HY.out k M HC.out hlt
    have HSt:Hid (∀N,_→_):=fun N=>HZ.out k M N HC.out hlt
    generalize l[k]=x at hc0 hc1 hou HXU HSk HSt
    clear hbw2 hMp
    by_cases hx:x∈M
    · have HD:Hid (decide (x∈M)=true):=decide_eq_true hx
      have HS2:Hid (Climbing es L u (k+1) M):=HSk.out hx
      clear hx HSk HSt
      go_wp2_with fail
      refine(has_any fb M x _ (hset.up ((Below.refl _ _).alloc (Nat.le_refl _) _)) hou).mono ?_
      rintro e w1 ⟨rfl,hb1⟩
      rw[HD.out]
      have hbb:=((Below.refl wr.heap.size wr).alloc (Nat.le_refl _) (.cells #[.string x.t,.string x.i] 24)).trans (hb1.mono (by simp))
      go_wp2_with fail
      go_roundw
      case rel=>exact⟨k+1,M,by omega,by go_num,HS2,hset.up hbb,hgr.trans ((gb_of hbb).but _),hcnt⟩
      case measure=>simp[intOf];omega
    · have HD:Hid (decide (x∈M)=false):=decide_eq_false hx
      have HN:Hid (x∉M):=hx
      have hlt2:=toCome_lt HXU.out hx
      have hle2:toCome U M≤toCome U L:=toCome_le HC.out.sub
      have hkey:keyOf Tryz.prog 24 (.agg #[.string x.t,.string x.i])=some (klit x):=keyOf_uid hou
      clear hx HSk
      go_wp2_with fail
      refine(has_any fb M x _ (hset.up ((Below.refl _ _).alloc (Nat.le_refl _) _)) hou).mono ?_
      rintro e w1 ⟨rfl,hb1⟩
      rw[HD.out]
      have hbb:=((Below.refl wr.heap.size wr).alloc (Nat.le_refl _) (.cells #[.string x.t,.string x.i] 24)).trans (hb1.mono (by simp))
      have hcc1:∀o,w1.cell? ⟨wr.heap.size,o,none⟩=_:=fun o=>hb1.cell (p:=⟨wr.heap.size,o,none⟩) (by simp)
      have hx0:w1.cell? ⟨wr.heap.size,0,none⟩=some (.string x.t):=by rw[hcc1];simp
      have hx1:w1.cell? ⟨wr.heap.size,1,none⟩=some (.string x.i):=by rw[hcc1];simp
      have hfne:some wr.heap.size≠some fb:=fun q=>by have:=hset.lt;simp at q;omega
      clear hcc1
      have hz1:wr.heap.size<w1.heap.size:=by have:=hb1.size;simp at this;omega
      obtain⟨D,h1,h2,h3,h4,h5,h6⟩:=hset.up hbb
      have HT:Hid (_∧_):=USet.put (d:=.agg []) h1.isMap (h1.tidy uid_law) h2 h3 h4 h5 h6 hou HN.out
      have hMl:M.length<maxLen:=by unfold maxLen;omega
      clear h2 h3 h4 h5 h6
      go_wp2_with (at_mapUpdate;refine wpList_mapUpdate_own _ rfl _ _ _ 100 rfl 24 120 uid_law Tryz.underlying100 _ fb M.length D rfl h1 hMl _ _ (klit x) rfl rfl hkey (.agg []) [] unitElem_mk ?_;intro w2 hown2 hg2;have hy0:=(cell_grown2 hg2 hz1 hfne 0).trans hx0;have hy1:=(cell_grown2 hg2 hz1 hfne 1).trans hx1)
      have hset2:USet w2 fb (M++[x]):=⟨_,by simpa using hown2,HT.out⟩
      have hg02:wr.grownBy w2 (some fb):=((gb_of hbb).but _).trans hg2
      refine(IH.out (toCome U (M++[x])) (by omega) (M++[x]) x _ hou (HMp.out.kept hg02 (fun q=>hne (by simpa using q))) hset2 (HB2.out.grown hg02 HB2.out.size (fun j hj=>by cases hj;exact hb0)) rfl (by simp;omega)).mono ?_
      rintro e w3 ⟨rfl,N,hcl,hset3,hg3,hcnt3⟩
      have HS2:Hid (Climbing es L u (k+1) N):=HSt.out N hcl
      have hcl3:=hcnt3
      rw[List.length_append,List.length_singleton]at hcl3
      clear hcl
      go_wp2_with fail
      go_roundw
      case rel=>exact⟨k+1,N,by omega,by go_num,HS2,hset3,(hgr.trans hg02).trans hg3,by omega⟩
      case measure=>simp[intOf];omega
  · obtain rfl:k=l.length:=by omega
    have i1:¬(l.length:Int)<(l.length:Int):=by omega
    have HE:Hid (Climbed es L u M):=HX.out M HC.out
    go_wp2_with fail
    go_end0
    exact⟨rfl,M,HE.out,hset,hgr,hcnt⟩
end Go.Proofs.YtlnhaajjoplafaaGreatDoor
