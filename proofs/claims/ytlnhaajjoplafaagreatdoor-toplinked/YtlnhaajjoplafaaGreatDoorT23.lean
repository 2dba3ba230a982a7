import Derived.Test.YtlnhaajjoplafaaGreatDoorT21
import Derived.Test.YtlnhaajjoplafaaGreatDoorT11
import Derived.Shelf.Abstract
import Derived.Test.YtlnhaajjoplafaaGreatDoorT10
import Derived.Test.YtlnhaajjoplafaaGreatDoorT4
import Derived.Deep.QuietTactic
import Derived.BigQuiet
set_option linter.unusedVariables false
set_option maxHeartbeats 12000000
namespace Go.Proofs.YtlnhaajjoplafaaGreatDoor
open Go.RowKit
def Asks (w:World)(fv:Value)(p:List Nd→Bool):Prop:=
 ∃g lb,fv= .func (.func g) #[] lb∧(∀args w,(callFunc g args).run Tryz.prog w= .ok (.enter g args) w)∧
  ∀(W:World) (q:Option Addr) (v:List Nd) (c:Nat),Below w.heap.size w W→NL W q v→v.length≤c→c≤maxLen→
   Calls Tryz.prog g (#[.slice q v.length c]++lb) W fun e w'=>e= .returned (.bool (p v))∧Below W.heap.size W w'
theorem Asks.later {w W:World}{fv:Value}{p:List Nd→Bool}(h:Asks w fv p)(hb:Below w.heap.size w W):Asks W fv p:=by
 obtain⟨g,lb,h1,h2,h3⟩:=h
 exact⟨g,lb,h1,h2,fun W' q v c hb'=>h3 W' q v c (hb.trans (hb'.mono hb.size))⟩
theorem any_next {vs:List (List Nd)}{k:Nat}(h:k<vs.length)(p:List Nd→Bool):(vs.take (k+1)).any p=((vs.take k).any p || p vs[k]):=by
 rw[List.take_succ_eq_append_getElem h,List.any_append];simp
theorem any_hit {vs:List (List Nd)}{k:Nat}(h:k<vs.length){p:List Nd→Bool}(hp:p vs[k]=true):vs.any p=true:=
 List.any_eq_true.2 ⟨_,List.getElem_mem h,hp⟩
theorem indexFunc_any (vs:List (List Nd))(p:Option Addr)(c:Nat)(fv:Value)(ask:List Nd→Bool)(w:World)(hv:LL w p vs)(hl:vs.length≤maxLen)(hf:Asks w fv ask):
 Calls Tryz.prog 176 #[.slice p vs.length c,fv] w fun e w'=>(∃n:Int,e= .returned (.int .i64 n)∧decide (0≤n)=vs.any ask)∧Below w.heap.size w w':=by
 unfold maxLen at hl
 obtain⟨g,lb,rfl,eg,hp⟩:=hf
 have HP:Hid (∀(W:World) (q:Option Addr) (v:List Nd) (c:Nat),Below w.heap.size w W→NL W q v→v.length≤c→c≤maxLen→Calls Tryz.prog g (#[.slice q v.length c]++lb) W fun e w'=>e= .returned (.bool (ask v))∧Below W.heap.size W w'):=hp
 clear hp
 go_enter Tryz.func176,Tryz.ntmps176
 go_wp2
 go_loopw [8] (fun i wr=>∃k:Nat,k≤vs.length∧i= .int .i64 k∧Hid ((vs.take k).any ask=false)∧Below w.heap.size w wr) (fun i _=>vs.length-(intOf i).toNat)
 case atStart=>exact⟨0,Nat.zero_le _,rfl,by simp[Hid],Below.refl _ _⟩
 case round=>
  obtain⟨k,hk,rfl,HA,hb⟩:=hrel
  by_cases hlt:k<vs.length
  · have i1:(k:Int)<(vs.length:Int):=by omega
    obtain⟨b,off,q,c',rfl,hbw,hcell,hnl,h1,h2⟩:=(hv.up hb).at hlt
    have HN:Hid (_=_):=any_next hlt ask
    have HH:Hid (_→_):=any_hit hlt (p:=ask)
    have H1:=HP.out wr q _ c' hb hnl h1 h2
    generalize vs[k]=v at *
    cases ha:ask v
    · rw[ha]at H1
      have HA2:Hid ((vs.take (k+1)).any ask=false):=by show _=_;rw[HN.out,HA.out,ha];rfl
      clear HN HH HA
      go_wp2_with (go_at_fn g;refine H1.mono ?_;rintro e w1 ⟨rfl,hb1⟩)
      go_roundw
      case rel=>exact⟨k+1,by omega,by go_num,HA2,hb.trans (hb1.mono hb.size)⟩
      case measure=>simp[intOf];omega
    · rw[ha]at H1
      have HA2:Hid (vs.any ask=true):=HH.out ha
      clear HN HH HA
      go_wp2_with (go_at_fn g;refine H1.mono ?_;rintro e w1 ⟨rfl,hb1⟩)
      go_ret
      exact⟨⟨_,rfl,by rw[HA2.out];simp⟩,hb.trans (hb1.mono hb.size)⟩
  · have i1:¬(k:Int)<(vs.length:Int):=by omega
    have HA2:Hid (vs.any ask=false):=by
     have:=HA.out
     rw[List.take_of_length_le (by omega)]at this
     exact this
    go_wp2
    go_ret
    exact⟨⟨_,rfl,by rw[HA2.out];decide⟩,hb⟩
theorem containsFunc_any (vs:List (List Nd))(p:Option Addr)(c:Nat)(fv:Value)(ask:List Nd→Bool)(w:World)(hv:LL w p vs)(hl:vs.length≤maxLen)(hf:Asks w fv ask):
 Calls Tryz.prog 143 #[.slice p vs.length c,fv] w fun e w'=>e= .returned (.bool (vs.any ask))∧Below w.heap.size w w':=by
 have H1:=indexFunc_any vs p c fv ask w hv hl hf
 clear hf hv
 go_enter Tryz.func143,Tryz.ntmps143
 go_wp2_with fail
 refine H1.mono ?_
 rintro e w1 ⟨⟨n,rfl,hn⟩,hb⟩
 go_wp2
 go_ret
 exact⟨by rw[←hn];rfl,hb⟩
theorem inner_asks (B:Nat)(q:Option Addr)(v:List Nd)(c:Nat)(w:World)(hB:B<w.heap.size)(hc:w.cell? ⟨B,0,none⟩=some (.slice q v.length c))(hv:NL w q v)(hl:v.length≤maxLen):
 Asks w (.func (.func 175) #[] #[.pointer (some ⟨B,0,none⟩)]) (fun a=>decide (lsC a v=0)):=by
 refine⟨_,_,rfl,enters_of Tryz.func175 (by kernel_rfl) rfl,fun W p a c1 hb ha h1 h2=>?_⟩
 have H1:=equalNodes_any a v p q c1 c W ha (hv.up hb) (Nat.le_trans h1 h2) hl
 have hc':=(hb.cell (p:=⟨B,0,none⟩) hB).trans hc
 go_enter Tryz.func175,Tryz.ntmps175
 go_wp2_with fail
 refine H1.mono ?_
 rintro e w1 ⟨rfl,n,rfl⟩
 go_wp2
 go_ret
 exact⟨rfl,⟨rfl,rfl,rfl,Nat.le_refl _,fun _ _=>rfl⟩⟩
theorem had_asks (B:Nat)(p:Option Addr)(vs:List (List Nd))(c:Nat)(w:World)(hB:B<w.heap.size)(hc:w.cell? ⟨B,0,none⟩=some (.slice p vs.length c))(hv:LL w p vs)(hl:vs.length≤maxLen):
 Asks w (.func (.func 174) #[] #[.pointer (some ⟨B,0,none⟩)]) (inB vs):=by
 refine⟨_,_,rfl,enters_of Tryz.func174 (by kernel_rfl) rfl,fun W q v c1 hb hn h1 h2=>?_⟩
 have hc':=(hb.cell (p:=⟨B,0,none⟩) hB).trans hc
 have hB':B<W.heap.size:=Nat.lt_of_lt_of_le hB hb.size
 have hup:Below W.heap.size W (W.alloc (.cells #[.slice q v.length c1] 30)):=(Below.refl _ _).alloc (Nat.le_refl _) _
 have hc2:=(hup.cell (p:=⟨B,0,none⟩) hB').trans hc'
 have H1:=containsFunc_any vs p c _ _ (W.alloc (.cells #[.slice q v.length c1] 30)) ((hv.up hb).up hup) hl
  (inner_asks W.heap.size q v c1 (W.alloc (.cells #[.slice q v.length c1] 30)) (by simp) (by simp) (hn.up hup) (Nat.le_trans h1 h2))
 clear hc hv hn
 go_enter Tryz.func174,Tryz.ntmps174
 go_wp2_with fail
 refine H1.mono ?_
 rintro e w1 ⟨rfl,hb1⟩
 go_wp2
 go_ret
 exact⟨rfl,hup.trans (hb1.mono hup.size)⟩
theorem hadBy_any (p:Option Addr)(vs:List (List Nd))(c:Nat)(w:World)(hv:LL w p vs)(hl:vs.length≤maxLen):
 Calls Tryz.prog 141 #[.slice p vs.length c] w fun e w'=>(∃fv,e= .returned fv∧Asks w' fv (inB vs))∧Below w.heap.size w w':=by
 have hup:Below w.heap.size w (w.alloc (.cells #[.slice p vs.length c] 57)):=(Below.refl _ _).alloc (Nat.le_refl _) _
 have HA:=had_asks w.heap.size p vs c (w.alloc (.cells #[.slice p vs.length c] 57)) (by simp) (by simp) (hv.up hup) hl
 have hmf:∀(fn:Fn) (first cap:Array Value) (w:World),(Instr.makeFunc fn first cap).run Tryz.prog w= .ok (.func fn first cap) w:=fun _ _ _ _=>rfl
 go_enter Tryz.func141,Tryz.ntmps141
 go_wp2
 go_ret
 exact⟨⟨_,rfl,HA⟩,hup⟩
theorem not_asks (B:Nat)(fv:Value)(ask:List Nd→Bool)(w:World)(hB:B<w.heap.size)(hc:w.cell? ⟨B,0,none⟩=some fv)(hf:Asks w fv ask):
 Asks w (.func (.func 177) #[] #[.pointer (some ⟨B,0,none⟩)]) (fun v=> !ask v):=by
 obtain⟨g,lb,rfl,eg,hp⟩:=hf
 refine⟨_,_,rfl,enters_of Tryz.func177 (by kernel_rfl) rfl,fun W q v c1 hb hn h1 h2=>?_⟩
 have hc':=(hb.cell (p:=⟨B,0,none⟩) hB).trans hc
 have H1:=hp W q v c1 hb hn h1 h2
 clear hp hc
 go_enter Tryz.func177,Tryz.ntmps177
 go_wp2_with (go_at_fn g;refine H1.mono ?_;rintro e w1 ⟨rfl,hb1⟩)
 go_ret
 exact⟨rfl,hb1⟩
theorem not_any (fv:Value)(ask:List Nd→Bool)(w:World)(hf:Asks w fv ask):
 Calls Tryz.prog 144 #[fv] w fun e w'=>(∃fv',e= .returned fv'∧Asks w' fv' (fun v=> !ask v))∧Below w.heap.size w w':=by
 obtain⟨g,lb,hfv,_⟩:=id hf
 have hup:Below w.heap.size w (w.alloc (.cells #[fv] 129)):=(Below.refl _ _).alloc (Nat.le_refl _) _
 have HA:=not_asks w.heap.size fv ask (w.alloc (.cells #[fv] 129)) (by simp) (by simp) (hf.later hup)
 subst hfv
 have hmf:∀(fn:Fn) (first cap:Array Value) (w:World),(Instr.makeFunc fn first cap).run Tryz.prog w= .ok (.func fn first cap) w:=fun _ _ _ _=>rfl
 go_enter Tryz.func144,Tryz.ntmps144
 go_wp2
 go_ret
 exact⟨⟨_,rfl,HA⟩,hup⟩
theorem any_not (ls lt:List (List Nd)):(lt.any fun v=> !inB ls v)= !allB ls lt:=by
 unfold allB
 induction lt with
 | nil=>rfl
 | cons a l ih=>simp only[List.any_cons,List.all_cons,ih,Bool.not_and]
theorem all_bad (s t:List Nd)(p q:Option Addr)(c d:Nat)(w:World)(hs:NL w p s)(hc:s.length≤c)(hcm:c≤maxLen)(ht:NL w q t)(hd:t.length≤d)(hdm:d≤maxLen)(h:sfault s t≠0):
 Calls Tryz.prog 104 #[.slice p s.length c,.slice q t.length d] w fun e w'=>e= .returned (.tuple #[.bool false,eV (sfault s t)])∧Below w.heap.size w w':=by
 have H1:=partsOfBoth_bad s t p q c d w hs hc hcm ht hd hdm h
 rw[eV_not h]at H1 ⊢
 clear hs ht
 go_enter Tryz.func104,Tryz.ntmps104
 go_wp2_with fail
 refine H1.mono ?_
 rintro e w1 ⟨rfl,hb1⟩
 go_wp2
 go_ret2
 exact⟨rfl,hb1⟩
theorem all_ok (l m:List (List Nd))(p q:Option Addr)(c d:Nat)(w:World)(hs:NL w p (setN l))(hc:(setN l).length≤c)(hcm:c≤maxLen)(ht:NL w q (setN m))(hd:(setN m).length≤d)(hdm:d≤maxLen)(hl:IsSet l)(hm:IsSet m):
 Calls Tryz.prog 104 #[.slice p (setN l).length c,.slice q (setN m).length d] w fun e w'=>e= .returned (.tuple #[.bool (allB l m),.nilIface])∧Below w.heap.size w w':=by
 have H1:=partsOfBoth_ok l m p q c d w hs hc hcm ht hd hdm hl hm
 have L1:l.length≤maxLen:=Nat.le_trans hl.len (by decide)
 have L2:m.length≤maxLen:=Nat.le_trans hm.len (by decide)
 have HE:Hid (_=_):=any_not l m
 clear hs ht
 go_enter Tryz.func104,Tryz.ntmps104
 go_wp2_with fail
 refine H1.mono ?_
 rintro e w1 ⟨⟨q1,c1,q2,c2,rfl,k1,k2,k3,k4,k5,k6⟩,hb1⟩
 have H2:=hadBy_any q1 l c1 w1 k1 L1
 clear H1
 go_wp2_with fail
 refine H2.mono ?_
 rintro e w2 ⟨⟨fv,rfl,hf⟩,hb2⟩
 have H3:=not_any fv _ w2 hf
 have k4':=k4.up hb2
 clear H2 k4
 go_wp2_with fail
 refine H3.mono ?_
 rintro e w3 ⟨⟨fv',rfl,hf'⟩,hb3⟩
 have H4:=containsFunc_any m q2 c2 fv' _ w3 (k4'.up hb3) L2 hf'
 rw[HE.out]at H4
 clear H3
 go_wp2_with fail
 refine H4.mono ?_
 rintro e w4 ⟨rfl,hb4⟩
 go_wp2
 go_ret2
 have hb5:=hb1.trans (hb2.mono hb1.size)
 have hb6:=hb5.trans (hb3.mono hb5.size)
 exact⟨by simp,hb6.trans (hb4.mono hb6.size)⟩
theorem any_bad (s t:List Nd)(p q:Option Addr)(c d:Nat)(w:World)(hs:NL w p s)(hc:s.length≤c)(hcm:c≤maxLen)(ht:NL w q t)(hd:t.length≤d)(hdm:d≤maxLen)(h:sfault s t≠0):
 Calls Tryz.prog 105 #[.slice p s.length c,.slice q t.length d] w fun e w'=>e= .returned (.tuple #[.bool false,eV (sfault s t)])∧Below w.heap.size w w':=by
 have H1:=partsOfBoth_bad s t p q c d w hs hc hcm ht hd hdm h
 rw[eV_not h]at H1 ⊢
 clear hs ht
 go_enter Tryz.func105,Tryz.ntmps105
 go_wp2_with fail
 refine H1.mono ?_
 rintro e w1 ⟨rfl,hb1⟩
 go_wp2
 go_ret2
 exact⟨rfl,hb1⟩
theorem any_ok (l m:List (List Nd))(p q:Option Addr)(c d:Nat)(w:World)(hs:NL w p (setN l))(hc:(setN l).length≤c)(hcm:c≤maxLen)(ht:NL w q (setN m))(hd:(setN m).length≤d)(hdm:d≤maxLen)(hl:IsSet l)(hm:IsSet m):
 Calls Tryz.prog 105 #[.slice p (setN l).length c,.slice q (setN m).length d] w fun e w'=>e= .returned (.tuple #[.bool (anyB l m),.nilIface])∧Below w.heap.size w w':=by
 have H1:=partsOfBoth_ok l m p q c d w hs hc hcm ht hd hdm hl hm
 have L1:l.length≤maxLen:=Nat.le_trans hl.len (by decide)
 have L2:m.length≤maxLen:=Nat.le_trans hm.len (by decide)
 clear hs ht
 go_enter Tryz.func105,Tryz.ntmps105
 go_wp2_with fail
 refine H1.mono ?_
 rintro e w1 ⟨⟨q1,c1,q2,c2,rfl,k1,k2,k3,k4,k5,k6⟩,hb1⟩
 have H2:=hadBy_any q1 l c1 w1 k1 L1
 clear H1
 go_wp2_with fail
 refine H2.mono ?_
 rintro e w2 ⟨⟨fv,rfl,hf⟩,hb2⟩
 have H4:=containsFunc_any m q2 c2 fv _ w2 (k4.up hb2) L2 hf
 clear H2
 go_wp2_with fail
 refine H4.mono ?_
 rintro e w4 ⟨rfl,hb4⟩
 go_wp2
 go_ret2
 have hb5:=hb1.trans (hb2.mono hb1.size)
 exact⟨rfl,hb5.trans (hb4.mono hb5.size)⟩
def hfault (s v:List Nd):Int:=if cfault s v=0 then(if isSetV s=true then 0 else 2)else cfault s v
theorem has_bad (s t:List Nd)(p q:Option Addr)(c d:Nat)(w:World)(hs:NL w p s)(hc:s.length≤c)(hcm:c≤maxLen)(ht:NL w q t)(hd:t.length≤d)(hdm:d≤maxLen)(h:hfault s t≠0):
 Calls Tryz.prog 103 #[.slice p s.length c,.slice q t.length d] w fun e w'=>e= .returned (.tuple #[.bool false,eV (hfault s t)])∧Below w.heap.size w w':=by
 have H1:=checkBoth_any s t p q c d w hs hc hcm ht hd hdm
 by_cases hz:cfault s t=0
 · rw[eV_nil hz]at H1
   obtain⟨h1,h2,_⟩:=sfault_v hz
   have h5:isSetV s=false:=by
    cases e:isSetV s with
    | false=>rfl
    | true=>unfold hfault at h;rw[if_pos hz,if_pos e]at h;exact absurd rfl h
   have h4:hfault s t=2:=by unfold hfault;rw[if_pos hz,h5];simp
   have H2:=fun w' (hb:Below w.heap.size w w')=>partsOf_type s p c w' (hs.up hb) hc hcm h1 h5
   rw[h4]
   rw[eV_not (by decide:(2:Int)≠0)]at H2 ⊢
   clear h4 h hz
   go_enter Tryz.func103,Tryz.ntmps103
   go_wp2_with fail
   refine H1.mono ?_
   rintro e w1 ⟨rfl,hb1⟩
   go_wp2_with fail
   refine(H2 w1 hb1).mono ?_
   rintro e w2 ⟨rfl,rfl⟩
   go_wp2
   go_ret2
   exact⟨rfl,hb1⟩
 · have h4:hfault s t=cfault s t:=by unfold hfault;rw[if_neg hz]
   rw[h4]
   rw[eV_not hz]at H1 ⊢
   go_enter Tryz.func103,Tryz.ntmps103
   go_wp2_with fail
   refine H1.mono ?_
   rintro e w1 ⟨rfl,hb1⟩
   go_wp2
   go_ret2
   exact⟨rfl,hb1⟩
theorem hfault_zero {s t:List Nd}(h:hfault s t=0):vfault t=0∧∃l,IsSet l∧s=setN l:=by
 unfold hfault at h
 split at h
 · rename_i hz
   obtain⟨h1,h2,_⟩:=sfault_v hz
   split at h
   · rename_i h5;exact⟨h2,one_row h1 h5⟩
   · cases h
 · rename_i hz;exact absurd h hz
theorem has_ok (l:List (List Nd))(t:List Nd)(p q:Option Addr)(c d:Nat)(w:World)(hs:NL w p (setN l))(hc:(setN l).length≤c)(hcm:c≤maxLen)(ht:NL w q t)(hd:t.length≤d)(hdm:d≤maxLen)(hl:IsSet l)(hv:vfault t=0):
 Calls Tryz.prog 103 #[.slice p (setN l).length c,.slice q t.length d] w fun e w'=>e= .returned (.tuple #[.bool (inB l t),.nilIface])∧Below w.heap.size w w':=by
 have H1:=checkBoth_any (setN l) t p q c d w hs hc hcm ht hd hdm
 have hz:cfault (setN l) t=0:=by unfold cfault;rw[if_pos hl.value];exact hv
 rw[eV_nil hz]at H1
 have H2:=fun w' (hb:Below w.heap.size w w')=>partsOf_set l p c w' (hs.up hb) hc hcm hl
 have L1:l.length≤maxLen:=Nat.le_trans hl.len (by decide)
 clear hz hs hl
 go_enter Tryz.func103,Tryz.ntmps103
 go_wp2_with fail
 refine H1.mono ?_
 rintro e w1 ⟨rfl,hb1⟩
 go_wp2_with fail
 refine(H2 w1 hb1).mono ?_
 rintro e w2 ⟨⟨q2,c2,rfl,k1,k2,k3,_⟩,hb2⟩
 have H3:=hadBy_any q2 l c2 w2 k1 L1
 have hb3:=hb1.trans (hb2.mono hb1.size)
 have ht2:=ht.up hb3
 clear H1 H2 ht
 go_wp2_with fail
 refine H3.mono ?_
 rintro e w3 ⟨⟨fv,rfl,hf⟩,hb4⟩
 obtain⟨g,lb,rfl,eg,hp⟩:=hf
 have H4:=hp w3 q t d (Below.refl _ _) (ht2.up hb4) hd hdm
 have hb5:=hb3.trans (hb4.mono hb3.size)
 clear H3 hp
 go_wp2_with (go_at_fn g;refine H4.mono ?_;rintro e w4 ⟨rfl,hb6⟩)
 go_ret2
 exact⟨rfl,hb5.trans (hb6.mono hb5.size)⟩
theorem likeCheck_any (s:ByteArray)(w:World)(hs:s.size≤maxLen):
 Calls Tryz.prog 129 #[.string s] w fun e w'=>e= .returned (eV (tfault s.data.toList))∧Below w.heap.size w w':=by
 go_enter Tryz.func129,Tryz.ntmps129
 go_wp2_with fail
 refine(quoteN_any s _ hs).mono ?_
 rintro e w1 ⟨q,hq,rfl,hb⟩
 generalize hv:eV (tfault s.data.toList)=v
 have HV:Hid (_=_):=hv
 clear hv
 go_wp2_with fail
 go_ret
 exact⟨by rw[HV.out];rfl,hb⟩
theorem drop_get (s:ByteArray)(k:Nat)(h:k<s.size):s.data.toList.drop k=s[k]::s.data.toList.drop (k+1):=by
 rw[List.drop_eq_getElem_cons (by simpa using h)];rfl
theorem drop_out (s:ByteArray)(k:Nat)(h:s.size≤k):s.data.toList.drop k=[]:=List.drop_of_length_le (by simpa using h)
theorem byte_num {c:UInt8}{n:Nat}:((c.toNat:Int) == (n:Int))=(c.toNat == n):=by rw[Bool.eq_iff_iff];simp;omega
theorem read_guard (s:ByteArray)(k:Nat)(h:k+1<s.size)(h1:s[k].toNat=92)(h2:s[k+1].toNat=42):pcs (s.data.toList.drop k)=(false,42)::pcs (s.data.toList.drop (k+2)):=by
 rw[drop_get s k (by omega),drop_get s (k+1) h,show s[k]=92 from byte_same h1,show s[k+1]=42 from byte_same h2,pcs_guard]
theorem read_star (s:ByteArray)(k:Nat)(h:k<s.size)(h1:s[k].toNat=42):pcs (s.data.toList.drop k)=(true,0)::pcs (s.data.toList.drop (k+1)):=by
 rw[drop_get s k h,show s[k]=42 from byte_same h1,pcs_star]
theorem read_plain (s:ByteArray)(k:Nat)(h:k<s.size)(h1:s[k].toNat≠42)(h2:s[k].toNat=92→(hk:k+1<s.size)→s[k+1].toNat≠42):pcs (s.data.toList.drop k)=(false,s[k])::pcs (s.data.toList.drop (k+1)):=by
 rw[drop_get s k h,pcs_plain _ _ h1]
 intro h92 hh
 by_cases hk:k+1<s.size
 · rw[drop_get s (k+1) hk]at hh
   have:s[k+1]=42:=by simpa using hh
   exact h2 h92 hk (by rw[this];rfl)
 · rw[drop_out s (k+1) (by omega)]at hh
   cases hh
theorem acc_pcs {l:List UInt8}{acc r:List Pc}(h:acc++r=pcs l):acc.length+r.length≤l.length:=by
 have:=pcs_len l
 rw[←h,List.length_append]at this
 exact this
theorem pieces_any (s:ByteArray)(w:World)(hs:s.size≤60):
 Calls Tryz.prog 131 #[.string s] w fun e w'=>∃v,e= .returned v∧OP w' w.heap.size v (pcs s.data.toList)∧Below w.heap.size w w':=by
 go_enter Tryz.func131,Tryz.ntmps131
 go_wp2
 go_loopw [3,4] (fun v i wr=>∃(k:Nat) (acc:List Pc),k≤s.size∧i= .int .i64 k∧OP wr w.heap.size v acc∧Hid (acc++pcs (s.data.toList.drop k)=pcs s.data.toList)∧Below w.heap.size w wr) (fun _ i _=>s.size-(intOf i).toNat)
 case atStart=>exact⟨0,[],Nat.zero_le _,rfl,OP.nil _ _,rfl,Below.refl _ _⟩
 case round=>
  obtain⟨k,acc,hk,rfl,hown,HA,hnx⟩:=hrel
  have hsz:=hnx.size
  have hac:acc.length≤60:=by
   have h1:=acc_pcs HA.out
   have h2:s.data.toList.length=s.size:=by simp
   omega
  by_cases hlt:k<s.size
  · have i1:(k:Int)<(s.size:Int):=by omega
    by_cases c92:s[k].toNat=92
    · have b92:((s[k].toNat:Int) == 92)=true:=by simpa using(by omega:(s[k].toNat:Int)=92)
      have b42:((s[k].toNat:Int) == 42)=false:=by simpa using(by omega:¬(s[k].toNat:Int)=42)
      by_cases hl2:k+1<s.size
      · have i2:(k:Int)+1<(s.size:Int):=by omega
        by_cases d42:s[k+1].toNat=42
        · have bd:((s[k+1].toNat:Int) == 42)=true:=by simpa using(by omega:(s[k+1].toNat:Int)=42)
          have HA2:Hid ((acc++[(false,42)])++pcs (s.data.toList.drop (k+2))=pcs s.data.toList):=by
           have h:=HA.out;rw[read_guard s k hl2 c92 d42]at h;rw[←h];show _=_;simp
          clear HA c92 d42
          go_wp2_with (at_builtin;refine append_piece _ rfl (.tmp 31) (.tmp 33) rfl w.heap.size _ _ rfl hown _ _ 42 rfl rfl (by omega) hsz ?_;intro v1 w1 hown1 hb1)
          go_roundw
          case rel=>exact⟨k+2,_,by omega,by go_num,hown1,HA2,hnx.trans hb1⟩
          case measure=>simp[intOf];omega
        · have bd:((s[k+1].toNat:Int) == 42)=false:=by simpa using(by omega:¬(s[k+1].toNat:Int)=42)
          have HA2:Hid ((acc++[(false,s[k])])++pcs (s.data.toList.drop (k+1))=pcs s.data.toList):=by
           have h:=HA.out;rw[read_plain s k hlt (by omega) (fun _ _=>d42)]at h;rw[←h];show _=_;simp
          clear HA c92 d42
          go_wp2_with (at_builtin;refine append_piece _ rfl (.tmp 43) (.tmp 48) rfl w.heap.size _ _ rfl hown _ _ s[k] rfl rfl (by omega) hsz ?_;intro v1 w1 hown1 hb1)
          go_roundw
          case rel=>exact⟨k+1,_,by omega,by go_num,hown1,HA2,hnx.trans hb1⟩
          case measure=>simp[intOf];omega
      · have i2:¬(k:Int)+1<(s.size:Int):=by omega
        have HA2:Hid ((acc++[(false,s[k])])++pcs (s.data.toList.drop (k+1))=pcs s.data.toList):=by
         have h:=HA.out;rw[read_plain s k hlt (by omega) (fun _ hk=>absurd hk hl2)]at h;rw[←h];show _=_;simp
        clear HA c92
        go_wp2_with (at_builtin;refine append_piece _ rfl (.tmp 43) (.tmp 48) rfl w.heap.size _ _ rfl hown _ _ s[k] rfl rfl (by omega) hsz ?_;intro v1 w1 hown1 hb1)
        go_roundw
        case rel=>exact⟨k+1,_,by omega,by go_num,hown1,HA2,hnx.trans hb1⟩
        case measure=>simp[intOf];omega
    · have b92:((s[k].toNat:Int) == 92)=false:=by simpa using(by omega:¬(s[k].toNat:Int)=92)
      by_cases c42:s[k].toNat=42
      · have b42:((s[k].toNat:Int) == 42)=true:=by simpa using(by omega:(s[k].toNat:Int)=42)
        have HA2:Hid ((acc++[(true,0)])++pcs (s.data.toList.drop (k+1))=pcs s.data.toList):=by
         have h:=HA.out;rw[read_star s k hlt c42]at h;rw[←h];show _=_;simp
        clear HA c92 c42
        go_wp2_with (at_builtin;refine append_piece _ rfl (.tmp 39) (.tmp 41) rfl w.heap.size _ _ rfl hown _ _ 0 rfl rfl (by omega) hsz ?_;intro v1 w1 hown1 hb1)
        go_roundw
        case rel=>exact⟨k+1,_,by omega,by go_num,hown1,HA2,hnx.trans hb1⟩
        case measure=>simp[intOf];omega
      · have b42:((s[k].toNat:Int) == 42)=false:=by simpa using(by omega:¬(s[k].toNat:Int)=42)
        have HA2:Hid ((acc++[(false,s[k])])++pcs (s.data.toList.drop (k+1))=pcs s.data.toList):=by
         have h:=HA.out;rw[read_plain s k hlt c42 (fun h _=>absurd h c92)]at h;rw[←h];show _=_;simp
        clear HA c92 c42
        go_wp2_with (at_builtin;refine append_piece _ rfl (.tmp 43) (.tmp 48) rfl w.heap.size _ _ rfl hown _ _ s[k] rfl rfl (by omega) hsz ?_;intro v1 w1 hown1 hb1)
        go_roundw
        case rel=>exact⟨k+1,_,by omega,by go_num,hown1,HA2,hnx.trans hb1⟩
        case measure=>simp[intOf];omega
  · have i1:¬(k:Int)<(s.size:Int):=by omega
    have HE:Hid (acc=pcs s.data.toList):=by
     have h:=HA.out;rw[drop_out s k (by omega),pcs,List.append_nil]at h;exact h
    clear HA
    go_wp2
    go_ret
    exact⟨_,rfl,by rw[←HE.out];exact hown,hnx⟩
theorem take_get {α :Type}(l:List α)(k:Nat)(h:k<l.length):l.take (k+1)=l.take k++[l[k]]:=List.take_succ_eq_append_getElem h
def gw (f:Nat→Bool)(i j:Nat):Bool:=if j<i then por f j else f j
theorem gw_step (f:Nat→Bool)(i:Nat)(h:1≤i)(j:Nat):(if j=i then(gw f i i || gw f i (i-1))else gw f i j)=gw f (i+1) j:=by
 have e1:gw f i i=f i:=by unfold gw;rw[if_neg (by omega)]
 have e2:gw f i (i-1)=por f (i-1):=by unfold gw;rw[if_pos (by omega)]
 by_cases hj:j=i
 · subst hj
   rw[if_pos rfl,e1,e2]
   unfold gw
   rw[if_pos (by omega)]
   have:=por_succ f (j-1)
   rw[show j-1+1=j by omega]at this
   exact this.symm
 · rw[if_neg hj]
   unfold gw
   by_cases h2:j<i
   · rw[if_pos h2,if_pos (by omega)]
   · rw[if_neg h2,if_neg (by omega)]
theorem gw_start (f:Nat→Bool)(j:Nat):f j=gw f 1 j:=by
 unfold gw
 by_cases h:j<1
 · obtain rfl:j=0:=by omega
   rw[if_pos h,por_zero]
 · rw[if_neg h]
theorem growWild_any (g n:Nat)(f:Nat→Bool)(w:World)(hr:RB w g n f)(h1:1≤n)(hn:n≤1000):
 Calls Tryz.prog 167 #[.slice (some ⟨g,0,none⟩) n n] w fun e w'=>e= .returned (.tuple #[])∧RB w' g n (por f)∧Below g w w':=by
 have HR0:Hid (RB w g n (gw f 1)):=hr.congr fun j _=>gw_start f j
 clear hr
 go_enter Tryz.func167,Tryz.ntmps167
 go_wp2
 go_loopw [2] (fun iv wr=>∃i:Nat,1≤i∧i≤n∧iv= .int .i64 i∧Hid (RB wr g n (gw f i))∧Hid (Below g w wr)) (fun iv _=>n-(intOf iv).toNat)
 case atStart=>exact⟨1,Nat.le_refl _,h1,rfl,HR0,Below.refl _ _⟩
 case round=>
  obtain⟨i,hi1,hi,rfl,HR,HB⟩:=hrel
  by_cases hlt:i<n
  · have i1:(i:Int)<(n:Int):=by omega
    have i2:(1:Int)≤(i:Int):=by omega
    have c1:=HR.out.at hlt
    have c0:=HR.out.at (j:=i-1) (by omega)
    have f1:=HR.out.free i
    have HN:Hid (∀x:Bool,(gw f i i || gw f i (i-1))=x→RB (wr.setCell ⟨g,i,none⟩ (.bool x)) g n (gw f (i+1))):=fun x hx=>(HR.out.set i x).congr fun j _=>by rw[←hx];exact gw_step f i hi1 j
    generalize gw f i i=x1 at c1 HN
    generalize gw f i (i-1)=x0 at c0 HN
    cases x1
    · go_wp2
      go_roundw
      case rel=>exact⟨i+1,by omega,by omega,by go_num,HN.out _ rfl,HB.out.setCell (Nat.le_refl _) _⟩
      case measure=>simp[intOf];omega
    · go_wp2
      go_roundw
      case rel=>exact⟨i+1,by omega,by omega,by go_num,HN.out _ rfl,HB.out.setCell (Nat.le_refl _) _⟩
      case measure=>simp[intOf];omega
  · obtain rfl:i=n:=by omega
    have i1:¬(i:Int)<(i:Int):=by omega
    go_wp2
    go_end0
    exact⟨rfl,HR.out.congr fun j hj=>by unfold gw;rw[if_pos hj],HB.out⟩
def gc (f:Nat→Bool)(l:List UInt8)(c:UInt8)(i j:Nat):Bool:=if i<j then(f (j-1) && l.getD (j-1) 0 == c)else f j
theorem gc_step (f:Nat→Bool)(l:List UInt8)(c:UInt8)(i:Nat)(h:1≤i)(j:Nat):(if j=i then(gc f l c i (i-1) && l.getD (i-1) 0 == c)else gc f l c i j)=gc f l c (i-1) j:=by
 have e2:gc f l c i (i-1)=f (i-1):=by unfold gc;rw[if_neg (by omega)]
 by_cases hj:j=i
 · subst hj
   rw[if_pos rfl,e2]
   unfold gc
   rw[if_pos (by omega)]
 · rw[if_neg hj]
   unfold gc
   by_cases h2:i<j
   · rw[if_pos h2,if_pos (by omega)]
   · rw[if_neg h2,if_neg (by omega)]
def gcd (f:Nat→Bool)(l:List UInt8)(c:UInt8)(j:Nat):Bool:=decide (0<j) && (f (j-1) && l.getD (j-1) 0 == c)
theorem gc_done (f:Nat→Bool)(l:List UInt8)(c:UInt8)(j:Nat):(if j=0 then false else gc f l c 0 j)=gcd f l c j:=by
 unfold gcd gc
 by_cases h:j=0
 · subst h;rfl
 · rw[if_neg h,if_pos (by omega),decide_eq_true (by omega),Bool.true_and]
theorem getD_byte (s:ByteArray)(k:Nat)(h:k<s.size):s.data.toList.getD k 0=s[k]:=by
 have:k<s.data.toList.length:=by simpa using h
 rw[List.getD_eq_getElem?_getD,List.getElem?_eq_getElem this];rfl
theorem growChar_any (g:Nat)(f:Nat→Bool)(s:ByteArray)(c:UInt8)(w:World)(hr:RB w g (s.size+1) f)(hn:s.size≤1000):
 Calls Tryz.prog 168 #[.slice (some ⟨g,0,none⟩) (s.size+1) (s.size+1),.string s,.int .u8 (c.toNat:Int)] w fun e w'=>e= .returned (.tuple #[])∧RB w' g (s.size+1) (gcd f s.data.toList c)∧Below g w w':=by
 have HR0:Hid (RB w g (s.size+1) (gc f s.data.toList c s.size)):=hr.congr fun j hj=>by unfold gc;rw[if_neg (by omega)]
 clear hr
 go_enter Tryz.func168,Tryz.ntmps168
 go_wp2
 go_loopw [6] (fun iv wr=>∃i:Nat,i≤s.size∧iv= .int .i64 i∧Hid (RB wr g (s.size+1) (gc f s.data.toList c i))∧Hid (Below g w wr)) (fun iv _=>(intOf iv).toNat)
 case atStart=>exact⟨s.size,Nat.le_refl _,rfl,HR0,Below.refl _ _⟩
 case round=>
  obtain⟨i,hi,rfl,HR,HB⟩:=hrel
  by_cases hlt:0<i
  · have i1:(0:Int)<(i:Int):=by omega
    have i2:(1:Int)≤(i:Int):=by omega
    have i3:(i:Int)≤(s.size:Int):=by omega
    have hks:i-1<s.size:=by omega
    have c1:=HR.out.at (j:=i) (by omega)
    have c0:=HR.out.at (j:=i-1) (by omega)
    have f1:=HR.out.free i
    have HN:Hid (∀x:Bool,(gc f s.data.toList c i (i-1) && s[i-1] == c)=x→RB (wr.setCell ⟨g,i,none⟩ (.bool x)) g (s.size+1) (gc f s.data.toList c (i-1))):=fun x hx=>(HR.out.set i x).congr fun j _=>by rw[←hx,←getD_byte s (i-1) hks];exact gc_step f _ c i hlt j
    generalize gc f s.data.toList c i i=x1 at c1
    generalize gc f s.data.toList c i (i-1)=x0 at c0 HN
    have HC:Hid ((s[i-1] == c)=((s[i-1].toNat:Int) == (c.toNat:Int))):=by
     show _=_
     rw[Bool.eq_iff_iff]
     simp only[beq_iff_eq]
     constructor
     · intro h;rw[h]
     · intro h;exact byte_same (by omega)
    cases x0
    · clear HC
      go_wp2
      go_roundw
      case rel=>exact⟨i-1,by omega,by go_num,HN.out _ rfl,HB.out.setCell (Nat.le_refl _) _⟩
      case measure=>simp[intOf];omega
    · rw[HC.out]at HN
      go_wp2
      go_roundw
      case rel=>exact⟨i-1,by omega,by go_num,HN.out _ rfl,HB.out.setCell (Nat.le_refl _) _⟩
      case measure=>simp[intOf];omega
  · obtain rfl:i=0:=by omega
    have i1:¬(0:Int)<0:=by omega
    have c1:=HR.out.at (j:=0) (by omega)
    have f1:=HR.out.free 0
    have HN:Hid (RB (wr.setCell ⟨g,0,none⟩ (.bool false)) g (s.size+1) (gcd f s.data.toList c)):=(HR.out.set 0 false).congr fun j _=>gc_done f _ c j
    generalize gc f s.data.toList c 0 0=x1 at c1
    go_wp2
    go_end0
    exact⟨rfl,HN.out,HB.out.setCell (Nat.le_refl _) _⟩
def fm (ps:List Pc)(l:List UInt8)(k j:Nat):Bool:=pM (ps.take k) (l.take j)
theorem fm_start (ps:List Pc)(l:List UInt8)(j:Nat)(h:j<l.length+1):(if j=0 then true else false)=fm ps l 0 j:=by
 unfold fm
 rw[List.take_zero]
 show _=(l.take j).isEmpty
 by_cases e:j=0
 · subst e;simp
 · rw[if_neg e]
   have:(l.take j).length≠0:=by rw[List.length_take];omega
   cases hl:l.take j with
   | nil=>rw[hl]at this;simp at this
   | cons a b=>rfl
theorem fm_wild (ps:List Pc)(l:List UInt8)(k:Nat)(hk:k<ps.length)(h:ps[k].1=true)(j:Nat)(hj:j<l.length+1):por (fm ps l k) j=fm ps l (k+1) j:=by
 unfold fm
 rw[take_get ps k hk,M_wild _ _ h l j (by omega)]
theorem fm_char (ps:List Pc)(l:List UInt8)(k:Nat)(hk:k<ps.length)(h:ps[k].1=false)(j:Nat)(hj:j<l.length+1):gcd (fm ps l k) l ps[k].2 j=fm ps l (k+1) j:=by
 unfold gcd fm
 rw[take_get ps k hk]
 match j,hj with
 | 0,_=>rw[List.take_zero,M_char_nil _ _ h];rfl
 | j+1,hj=>
   have hj':j<l.length:=by omega
   rw[take_get l j hj',M_char _ _ h,decide_eq_true (by omega),Bool.true_and,Nat.add_sub_cancel]
   congr 2
   rw[List.getD_eq_getElem?_getD,List.getElem?_eq_getElem hj'];rfl
theorem fits_any (ps:List Pc)(p:Option Addr)(c:Nat)(s:ByteArray)(w:World)(hp:PL w p ps)(h60:ps.length≤1000)(hs:s.size≤900):
 Calls Tryz.prog 130 #[.slice p ps.length c,.string s] w fun e w'=>e= .returned (.bool (pM ps s.data.toList))∧Below w.heap.size w w':=by
 obtain⟨i0,hi,hz0,hz1,hz2⟩:=info_parts Tryz.infoBool
 have HP:Hid (PL w p ps):=hp
 clear hp
 have hln:s.data.toList.length=s.size:=by simp
 have HL:Hid (s.data.toList.length=s.size):=hln
 clear hln
 have hb32:i0.bytes*(s.size+1)≤281474976710656:=by rw[hz2];omega
 go_enter Tryz.func130,Tryz.ntmps130
 go_wp2_with (first
  | (at_make;refine wpList_make_full _ rfl _ _ 203 rfl w.heap.size 4 i0 _ 1 Tryz.underlying203 hi hz0 hz1 .i64 .i64 _ _ (s.size+1) rfl rfl (by first | rfl | omega) (by first | rfl | omega) hb32 (by unfold maxLen;omega) (Nat.le_refl _) ?_;intro w1 hown hg1;have hR0:=RB.made hown;have c0:=hR0.at (j:=0) (by omega);have f0:=hR0.free 0;have HR0:Hid (RB w1 w.heap.size (s.size+1) (fun _=>false)):=hR0;have HB1:Hid (Below w.heap.size w w1):=⟨hg1.os,hg1.tape,hg1.output,hg1.size,fun i hi=>hg1.block i hi (by simp)⟩;clear hown hR0 hg1)
  | go_in)
 go_loopw [16] (fun iv wr=>∃k:Nat,k≤ps.length∧iv= .int .i64 k∧Hid (RB wr w.heap.size (s.size+1) (fm ps s.data.toList k))∧Hid (Below w.heap.size w wr)) (fun iv _=>ps.length-(intOf iv).toNat)
 case atStart=>exact⟨0,Nat.zero_le _,rfl,(HR0.out.set 0 true).congr fun j hj=>fm_start ps _ j (by rw[HL.out];exact hj),HB1.out.setCell (Nat.le_refl _) _⟩
 case round=>
  obtain⟨k,hk,rfl,HR,HB⟩:=hrel
  by_cases hlt:k<ps.length
  · have i1:(k:Int)<(ps.length:Int):=by omega
    have hsz:=HB.out.size
    obtain⟨b,off,rfl,hbl,g0,g1⟩:=HP.out.at hlt
    have y0:=(HB.out.cell (p:=⟨b,off+k*2,none⟩) hbl).trans g0
    have y1:=(HB.out.cell (p:=⟨b,off+k*2+1,none⟩) hbl).trans g1
    have HW:Hid (ps[k].1=true→∀j,j<s.size+1→por (fm ps s.data.toList k) j=fm ps s.data.toList (k+1) j):=fun h j hj=>fm_wild ps _ k hlt h j (by rw[HL.out];exact hj)
    have HC:Hid (ps[k].1=false→∀j,j<s.size+1→gcd (fm ps s.data.toList k) s.data.toList ps[k].2 j=fm ps s.data.toList (k+1) j):=fun h j hj=>fm_char ps _ k hlt h j (by rw[HL.out];exact hj)
    clear g0 g1
    generalize ps[k]=x at y0 y1 HW HC
    obtain⟨x1,x2⟩:=x
    have HR2:Hid (RB (wr.alloc (.cells #[.bool x1,.int .u8 (x2.toNat:Int)] 205)) w.heap.size (s.size+1) (fm ps s.data.toList k)):=HR.out.up ((Below.refl wr.heap.size wr).alloc (Nat.le_refl _) _) HR.out.lt
    have HB2:Hid (Below w.heap.size w (wr.alloc (.cells #[.bool x1,.int .u8 (x2.toNat:Int)] 205))):=HB.out.alloc hsz _
    cases x1
    · have HC2:=HC.out rfl
      have HC3:Hid (∀j,j<s.size+1→gcd (fm ps s.data.toList k) s.data.toList x2 j=fm ps s.data.toList (k+1) j):=HC2
      clear HC2 HW HC
      go_wp2_with fail
      refine(growChar_any w.heap.size _ s x2 _ HR2.out (by omega)).mono ?_
      rintro e w2 ⟨rfl,hr2,hb2⟩
      have HR3:Hid (RB w2 w.heap.size (s.size+1) (fm ps s.data.toList (k+1))):=hr2.congr HC3.out
      have HB3:Hid (Below w.heap.size w w2):=HB2.out.trans hb2
      clear hr2 hb2
      go_wp2_with fail
      go_roundw
      case rel=>exact⟨k+1,by omega,by go_num,HR3,HB3⟩
      case measure=>simp[intOf];omega
    · have HC2:=HW.out rfl
      have HC3:Hid (∀j,j<s.size+1→por (fm ps s.data.toList k) j=fm ps s.data.toList (k+1) j):=HC2
      clear HC2 HW HC
      go_wp2_with fail
      refine(growWild_any w.heap.size _ _ _ HR2.out (by omega) (by omega)).mono ?_
      rintro e w2 ⟨rfl,hr2,hb2⟩
      have HR3:Hid (RB w2 w.heap.size (s.size+1) (fm ps s.data.toList (k+1))):=hr2.congr HC3.out
      have HB3:Hid (Below w.heap.size w w2):=HB2.out.trans hb2
      clear hr2 hb2
      go_wp2_with fail
      go_roundw
      case rel=>exact⟨k+1,by omega,by go_num,HR3,HB3⟩
      case measure=>simp[intOf];omega
  · obtain rfl:k=ps.length:=by omega
    have i1:¬(ps.length:Int)<(ps.length:Int):=by omega
    have y0:=HR.out.at (j:=s.size) (by omega)
    have i3:(s.size:Int)<(s.size:Int)+1:=by omega
    have HE:Hid (fm ps s.data.toList ps.length s.size=pM ps s.data.toList):=by
     show _=_
     unfold fm
     rw[List.take_length,List.take_of_length_le (by rw[HL.out];exact Nat.le_refl _)]
    rw[HE.out]at y0
    go_wp2_with fail
    go_ret
    exact⟨rfl,HB.out⟩
theorem tfault_zeroL {l:List UInt8}(h:tfault l=0):textOk l=true:=by
 cases h1:textOk l
 · exact absurd h (tfault_not h1)
 · rfl
theorem text_size {s:ByteArray}(h:textOk s.data.toList=true):s.size≤60:=by
 unfold textOk at h
 rw[Bool.and_eq_true,decide_eq_true_eq]at h
 simpa using h.1
def mfault (p s:List UInt8):Int:=if tfault p=0 then tfault s else tfault p
theorem mfault_ok {p s:List UInt8}(h:mfault p s=0):textOk p=true∧textOk s=true:=by
 unfold mfault at h
 by_cases h1:tfault p=0
 · rw[if_pos h1]at h
   exact⟨tfault_zeroL h1,tfault_zeroL h⟩
 · rw[if_neg h1]at h;exact absurd h h1
theorem mfault_zero {p s:List UInt8}(hp:textOk p=true)(hs:textOk s=true):mfault p s=0:=by
 unfold mfault;rw[if_pos (tfault_ok hp),tfault_ok hs]
theorem belt {a b c:World}(h:Below a.heap.size a b)(k:Below b.heap.size b c):Below a.heap.size a c:=h.trans (k.mono h.size)
theorem match_bad (p s:ByteArray)(w:World)(hp:p.size≤maxLen)(hs:s.size≤maxLen)(h:mfault p.data.toList s.data.toList≠0):
 Calls Tryz.prog 97 #[.string p,.string s] w fun e w'=>e= .returned (.tuple #[.bool false,.iface 70 (.int .i64 (mfault p.data.toList s.data.toList))])∧Below w.heap.size w w':=by
 by_cases h1:tfault p.data.toList=0
 · have hm:mfault p.data.toList s.data.toList=tfault s.data.toList:=if_pos h1
   rw[hm]at h ⊢
   have HE:Hid (eV (tfault p.data.toList)= .nilIface):=eV_nil h1
   have HF:Hid (eV (tfault s.data.toList)= .iface 70 (.int .i64 (tfault s.data.toList))):=eV_not h
   clear h h1 hm
   go_enter Tryz.func97,Tryz.ntmps97
   go_wp2_with fail
   refine(likeCheck_any p _ hp).mono ?_
   rintro e w1 ⟨rfl,hb1⟩
   rw[HE.out]
   go_wp2_with fail
   refine(likeCheck_any s _ hs).mono ?_
   rintro e w2 ⟨rfl,hb2'⟩
   have hb2:=belt hb1 hb2'
   rw[HF.out]
   go_wp2_with fail
   go_ret2
   exact⟨rfl,hb2⟩
 · have hm:mfault p.data.toList s.data.toList=tfault p.data.toList:=if_neg h1
   rw[hm]at h ⊢
   have HF:Hid (eV (tfault p.data.toList)= .iface 70 (.int .i64 (tfault p.data.toList))):=eV_not h
   clear h h1 hm
   go_enter Tryz.func97,Tryz.ntmps97
   go_wp2_with fail
   refine(likeCheck_any p _ hp).mono ?_
   rintro e w1 ⟨rfl,hb1⟩
   rw[HF.out]
   go_wp2_with fail
   go_ret2
   exact⟨rfl,hb1⟩
theorem match_ok (p s:ByteArray)(w:World)(hp:textOk p.data.toList=true)(hs:textOk s.data.toList=true):
 Calls Tryz.prog 97 #[.string p,.string s] w fun e w'=>e= .returned (.tuple #[.bool (pM (pcs p.data.toList) s.data.toList),.nilIface])∧Below w.heap.size w w':=by
 have hp6:=text_size hp
 have hs6:=text_size hs
 have HE:Hid (eV (tfault p.data.toList)= .nilIface):=eV_nil (tfault_ok hp)
 have HF:Hid (eV (tfault s.data.toList)= .nilIface):=eV_nil (tfault_ok hs)
 have hl:(pcs p.data.toList).length≤60:=by
  have h1:=pcs_len p.data.toList
  have h2:p.data.toList.length=p.size:=by simp
  omega
 clear hp hs
 go_enter Tryz.func97,Tryz.ntmps97
 go_wp2_with fail
 refine(likeCheck_any p _ (by unfold maxLen;omega)).mono ?_
 rintro e w1 ⟨rfl,hb1⟩
 rw[HE.out]
 go_wp2_with fail
 refine(likeCheck_any s _ (by unfold maxLen;omega)).mono ?_
 rintro e w2 ⟨rfl,hb2'⟩
 have hb2:=belt hb1 hb2'
 rw[HF.out]
 go_wp2_with fail
 refine(pieces_any p _ hp6).mono ?_
 rintro e w3 ⟨v,rfl,hown,hb3'⟩
 have hb3:=belt hb2 hb3'
 obtain⟨q,c,rfl,hq,_⟩:=hown.slice
 go_wp2_with fail
 refine(fits_any (pcs p.data.toList) q c s _ hq (by omega) (by omega)).mono ?_
 rintro e w4 ⟨rfl,hb4'⟩
 have hb4:=belt hb3 hb4'
 go_wp2_with fail
 go_ret2
 exact⟨rfl,hb4⟩
end Go.Proofs.YtlnhaajjoplafaaGreatDoor
