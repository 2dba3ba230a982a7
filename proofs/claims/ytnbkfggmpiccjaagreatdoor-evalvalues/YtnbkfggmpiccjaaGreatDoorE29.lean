import Derived.Test.YtnbkfggmpiccjaaGreatDoorE27
import Derived.Test.YtnbkfggmpiccjaaGreatDoorE23
import Derived.Shelf.Abstract
set_option linter.unusedVariables false
set_option maxHeartbeats 12000000
namespace Go.Proofs.YtnbkfggmpiccjaaGreatDoor
open Go.RowKit
def Asks (w:World)(fv:Value)(p:List Nd→Bool):Prop:=
 ∃g lb,fv= .func (.func g) #[] lb∧(∀args w,(callFunc g args).run Tryz.prog w= .ok (.enter g args) w)∧
  ∀(W:World) (q:Option Addr) (v:List Nd) (c:Nat),Below w.heap.size w W→NL W q v→v.length≤c→c≤maxLen→
   Calls Tryz.prog g (#[.slice q v.length c]++lb) W fun e w'=>e= .returned (.bool (p v))∧Below W.heap.size W w'
theorem Asks.later {w W:World}{fv:Value}{p:List Nd→Bool}(h:Asks w fv p)(hb:Below w.heap.size w W):Asks W fv p:=by
 obtain⟨g,lb,h1,h2,h3⟩:=h
 exact⟨g,lb,h1,h2,fun W' q v c hb'=>h3 W' q v c (hb.trans (hb'.mono hb.size))⟩
theorem any_next {vs:List (List Nd)}{k:Nat}(h:k<vs.length)(p:List Nd→Bool):(vs.take (k+1)).any p=((vs.take k).any p || p vs[k]):=by
 rw[List.take_succ_eq_append_getElem h,List.any_append];simp
theorem any_hit {vs:List (List Nd)}{k:Nat}(h:k<vs.length){p:List Nd→Bool}(hp:p vs[k]=true):vs.any p=true:=
 List.any_eq_true.2 ⟨_,List.getElem_mem h,hp⟩
theorem indexFunc_any (vs:List (List Nd))(p:Option Addr)(c:Nat)(fv:Value)(ask:List Nd→Bool)(w:World)(hv:LL w p vs)(hl:vs.length≤maxLen)(hf:Asks w fv ask):
 Calls Tryz.prog 191 #[.slice p vs.length c,fv] w fun e w'=>(∃n:Int,e= .returned (.int .i64 n)∧decide (0≤n)=vs.any ask)∧Below w.heap.size w w':=by
 unfold maxLen at hl
 obtain⟨g,lb,rfl,eg,hp⟩:=hf
 have HP:Hid (∀(W:World) (q:Option Addr) (v:List Nd) (c:Nat),Below w.heap.size w W→NL W q v→v.length≤c→c≤maxLen→Calls Tryz.prog g (#[.slice q v.length c]++lb) W fun e w'=>e= .returned (.bool (ask v))∧Below W.heap.size W w'):=hp
 clear hp
 go_enter Tryz.func191,Tryz.ntmps191
 go_wp2
 go_loopw [8] (fun i wr=>∃k:Nat,k≤vs.length∧i= .int .i64 k∧Hid ((vs.take k).any ask=false)∧Below w.heap.size w wr) (fun i _=>vs.length-(intOf i).toNat)
 case atStart=>exact⟨0,Nat.zero_le _,rfl,by simp[Hid],Below.refl _ _⟩
 case round=>
  obtain⟨k,hk,rfl,HA,hb⟩:=hrel
  by_cases hlt:k<vs.length
  · have i1:(k:Int)<(vs.length:Int):=by omega
    obtain⟨b,off,q,c',rfl,hbw,hcell,hnl,h1,h2⟩:=(hv.up hb).at hlt
    have HN:Hid (_=_):=any_next hlt ask
    have HH:Hid (_→_):=any_hit hlt (p:=ask)
    have H1:=HP.out wr q _ c' hb hnl h1 h2
    generalize vs[k]=v at *
    cases ha:ask v
    · rw[ha]at H1
      have HA2:Hid ((vs.take (k+1)).any ask=false):=by show _=_;rw[HN.out,HA.out,ha];rfl
      clear HN HH HA
      go_wp2_with (go_at_fn g;refine H1.mono ?_;rintro e w1 ⟨rfl,hb1⟩)
      go_roundw
      case rel=>exact⟨k+1,by omega,by go_num,HA2,hb.trans (hb1.mono hb.size)⟩
      case measure=>simp[intOf];omega
    · rw[ha]at H1
      have HA2:Hid (vs.any ask=true):=HH.out ha
      clear HN HH HA
      go_wp2_with (go_at_fn g;refine H1.mono ?_;rintro e w1 ⟨rfl,hb1⟩)
      go_ret
      exact⟨⟨_,rfl,by rw[HA2.out];simp⟩,hb.trans (hb1.mono hb.size)⟩
  · have i1:¬(k:Int)<(vs.length:Int):=by omega
    have HA2:Hid (vs.any ask=false):=by
     have:=HA.out
     rw[List.take_of_length_le (by omega)]at this
     exact this
    go_wp2
    go_ret
    exact⟨⟨_,rfl,by rw[HA2.out];decide⟩,hb⟩
theorem containsFunc_any (vs:List (List Nd))(p:Option Addr)(c:Nat)(fv:Value)(ask:List Nd→Bool)(w:World)(hv:LL w p vs)(hl:vs.length≤maxLen)(hf:Asks w fv ask):
 Calls Tryz.prog 168 #[.slice p vs.length c,fv] w fun e w'=>e= .returned (.bool (vs.any ask))∧Below w.heap.size w w':=by
 have H1:=indexFunc_any vs p c fv ask w hv hl hf
 clear hf hv
 go_enter Tryz.func168,Tryz.ntmps168
 go_wp2_with fail
 refine H1.mono ?_
 rintro e w1 ⟨⟨n,rfl,hn⟩,hb⟩
 go_wp2
 go_ret
 exact⟨by rw[←hn];rfl,hb⟩
theorem inner_asks (B:Nat)(q:Option Addr)(v:List Nd)(c:Nat)(w:World)(hB:B<w.heap.size)(hc:w.cell? ⟨B,0,none⟩=some (.slice q v.length c))(hv:NL w q v)(hl:v.length≤maxLen):
 Asks w (.func (.func 190) #[] #[.pointer (some ⟨B,0,none⟩)]) (fun a=>decide (lsC a v=0)):=by
 refine⟨_,_,rfl,enters_of Tryz.func190 (by kernel_rfl) rfl,fun W p a c1 hb ha h1 h2=>?_⟩
 have H1:=equalNodes_any a v p q c1 c W ha (hv.up hb) (Nat.le_trans h1 h2) hl
 have hc':=(hb.cell (p:=⟨B,0,none⟩) hB).trans hc
 go_enter Tryz.func190,Tryz.ntmps190
 go_wp2_with fail
 refine H1.mono ?_
 rintro e w1 ⟨rfl,n,rfl⟩
 go_wp2
 go_ret
 exact⟨rfl,⟨rfl,rfl,rfl,Nat.le_refl _,fun _ _=>rfl⟩⟩
theorem had_asks (B:Nat)(p:Option Addr)(vs:List (List Nd))(c:Nat)(w:World)(hB:B<w.heap.size)(hc:w.cell? ⟨B,0,none⟩=some (.slice p vs.length c))(hv:LL w p vs)(hl:vs.length≤maxLen):
 Asks w (.func (.func 189) #[] #[.pointer (some ⟨B,0,none⟩)]) (inB vs):=by
 refine⟨_,_,rfl,enters_of Tryz.func189 (by kernel_rfl) rfl,fun W q v c1 hb hn h1 h2=>?_⟩
 have hc':=(hb.cell (p:=⟨B,0,none⟩) hB).trans hc
 have hB':B<W.heap.size:=Nat.lt_of_lt_of_le hB hb.size
 have hup:Below W.heap.size W (W.alloc (.cells #[.slice q v.length c1] 25)):=(Below.refl _ _).alloc (Nat.le_refl _) _
 have hc2:=(hup.cell (p:=⟨B,0,none⟩) hB').trans hc'
 have H1:=containsFunc_any vs p c _ _ (W.alloc (.cells #[.slice q v.length c1] 25)) ((hv.up hb).up hup) hl
  (inner_asks W.heap.size q v c1 (W.alloc (.cells #[.slice q v.length c1] 25)) (by simp) (by simp) (hn.up hup) (Nat.le_trans h1 h2))
 clear hc hv hn
 go_enter Tryz.func189,Tryz.ntmps189
 go_wp2_with fail
 refine H1.mono ?_
 rintro e w1 ⟨rfl,hb1⟩
 go_wp2
 go_ret
 exact⟨rfl,hup.trans (hb1.mono hup.size)⟩
theorem hadBy_any (p:Option Addr)(vs:List (List Nd))(c:Nat)(w:World)(hv:LL w p vs)(hl:vs.length≤maxLen):
 Calls Tryz.prog 166 #[.slice p vs.length c] w fun e w'=>(∃fv,e= .returned fv∧Asks w' fv (inB vs))∧Below w.heap.size w w':=by
 have hup:Below w.heap.size w (w.alloc (.cells #[.slice p vs.length c] 67)):=(Below.refl _ _).alloc (Nat.le_refl _) _
 have HA:=had_asks w.heap.size p vs c (w.alloc (.cells #[.slice p vs.length c] 67)) (by simp) (by simp) (hv.up hup) hl
 have hmf:∀(fn:Fn) (first cap:Array Value) (w:World),(Instr.makeFunc fn first cap).run Tryz.prog w= .ok (.func fn first cap) w:=fun _ _ _ _=>rfl
 go_enter Tryz.func166,Tryz.ntmps166
 go_wp2
 go_ret
 exact⟨⟨_,rfl,HA⟩,hup⟩
theorem not_asks (B:Nat)(fv:Value)(ask:List Nd→Bool)(w:World)(hB:B<w.heap.size)(hc:w.cell? ⟨B,0,none⟩=some fv)(hf:Asks w fv ask):
 Asks w (.func (.func 192) #[] #[.pointer (some ⟨B,0,none⟩)]) (fun v=> !ask v):=by
 obtain⟨g,lb,rfl,eg,hp⟩:=hf
 refine⟨_,_,rfl,enters_of Tryz.func192 (by kernel_rfl) rfl,fun W q v c1 hb hn h1 h2=>?_⟩
 have hc':=(hb.cell (p:=⟨B,0,none⟩) hB).trans hc
 have H1:=hp W q v c1 hb hn h1 h2
 clear hp hc
 go_enter Tryz.func192,Tryz.ntmps192
 go_wp2_with (go_at_fn g;refine H1.mono ?_;rintro e w1 ⟨rfl,hb1⟩)
 go_ret
 exact⟨rfl,hb1⟩
theorem not_any (fv:Value)(ask:List Nd→Bool)(w:World)(hf:Asks w fv ask):
 Calls Tryz.prog 169 #[fv] w fun e w'=>(∃fv',e= .returned fv'∧Asks w' fv' (fun v=> !ask v))∧Below w.heap.size w w':=by
 obtain⟨g,lb,hfv,_⟩:=id hf
 have hup:Below w.heap.size w (w.alloc (.cells #[fv] 152)):=(Below.refl _ _).alloc (Nat.le_refl _) _
 have HA:=not_asks w.heap.size fv ask (w.alloc (.cells #[fv] 152)) (by simp) (by simp) (hf.later hup)
 subst hfv
 have hmf:∀(fn:Fn) (first cap:Array Value) (w:World),(Instr.makeFunc fn first cap).run Tryz.prog w= .ok (.func fn first cap) w:=fun _ _ _ _=>rfl
 go_enter Tryz.func169,Tryz.ntmps169
 go_wp2
 go_ret
 exact⟨⟨_,rfl,HA⟩,hup⟩
theorem any_not (ls lt:List (List Nd)):(lt.any fun v=> !inB ls v)= !allB ls lt:=by
 unfold allB
 induction lt with
 | nil=>rfl
 | cons a l ih=>simp only[List.any_cons,List.all_cons,ih,Bool.not_and]
theorem all_bad (s t:List Nd)(p q:Option Addr)(c d:Nat)(w:World)(hs:NL w p s)(hc:s.length≤c)(hcm:c≤maxLen)(ht:NL w q t)(hd:t.length≤d)(hdm:d≤maxLen)(h:sfault s t≠0):
 Calls Tryz.prog 127 #[.slice p s.length c,.slice q t.length d] w fun e w'=>e= .returned (.tuple #[.bool false,eV (sfault s t)])∧Below w.heap.size w w':=by
 have H1:=partsOfBoth_bad s t p q c d w hs hc hcm ht hd hdm h
 rw[eV_not h]at H1 ⊢
 clear hs ht
 go_enter Tryz.func127,Tryz.ntmps127
 go_wp2_with fail
 refine H1.mono ?_
 rintro e w1 ⟨rfl,hb1⟩
 go_wp2
 go_ret2
 exact⟨rfl,hb1⟩
theorem all_ok (l m:List (List Nd))(p q:Option Addr)(c d:Nat)(w:World)(hs:NL w p (setN l))(hc:(setN l).length≤c)(hcm:c≤maxLen)(ht:NL w q (setN m))(hd:(setN m).length≤d)(hdm:d≤maxLen)(hl:IsSet l)(hm:IsSet m):
 Calls Tryz.prog 127 #[.slice p (setN l).length c,.slice q (setN m).length d] w fun e w'=>e= .returned (.tuple #[.bool (allB l m),.nilIface])∧Below w.heap.size w w':=by
 have H1:=partsOfBoth_ok l m p q c d w hs hc hcm ht hd hdm hl hm
 have L1:l.length≤maxLen:=Nat.le_trans hl.len (by decide)
 have L2:m.length≤maxLen:=Nat.le_trans hm.len (by decide)
 have HE:Hid (_=_):=any_not l m
 clear hs ht
 go_enter Tryz.func127,Tryz.ntmps127
 go_wp2_with fail
 refine H1.mono ?_
 rintro e w1 ⟨⟨q1,c1,q2,c2,rfl,k1,k2,k3,k4,k5,k6⟩,hb1⟩
 have H2:=hadBy_any q1 l c1 w1 k1 L1
 clear H1
 go_wp2_with fail
 refine H2.mono ?_
 rintro e w2 ⟨⟨fv,rfl,hf⟩,hb2⟩
 have H3:=not_any fv _ w2 hf
 have k4':=k4.up hb2
 clear H2 k4
 go_wp2_with fail
 refine H3.mono ?_
 rintro e w3 ⟨⟨fv',rfl,hf'⟩,hb3⟩
 have H4:=containsFunc_any m q2 c2 fv' _ w3 (k4'.up hb3) L2 hf'
 rw[HE.out]at H4
 clear H3
 go_wp2_with fail
 refine H4.mono ?_
 rintro e w4 ⟨rfl,hb4⟩
 go_wp2
 go_ret2
 have hb5:=hb1.trans (hb2.mono hb1.size)
 have hb6:=hb5.trans (hb3.mono hb5.size)
 exact⟨by simp,hb6.trans (hb4.mono hb6.size)⟩
theorem any_bad (s t:List Nd)(p q:Option Addr)(c d:Nat)(w:World)(hs:NL w p s)(hc:s.length≤c)(hcm:c≤maxLen)(ht:NL w q t)(hd:t.length≤d)(hdm:d≤maxLen)(h:sfault s t≠0):
 Calls Tryz.prog 128 #[.slice p s.length c,.slice q t.length d] w fun e w'=>e= .returned (.tuple #[.bool false,eV (sfault s t)])∧Below w.heap.size w w':=by
 have H1:=partsOfBoth_bad s t p q c d w hs hc hcm ht hd hdm h
 rw[eV_not h]at H1 ⊢
 clear hs ht
 go_enter Tryz.func128,Tryz.ntmps128
 go_wp2_with fail
 refine H1.mono ?_
 rintro e w1 ⟨rfl,hb1⟩
 go_wp2
 go_ret2
 exact⟨rfl,hb1⟩
theorem any_ok (l m:List (List Nd))(p q:Option Addr)(c d:Nat)(w:World)(hs:NL w p (setN l))(hc:(setN l).length≤c)(hcm:c≤maxLen)(ht:NL w q (setN m))(hd:(setN m).length≤d)(hdm:d≤maxLen)(hl:IsSet l)(hm:IsSet m):
 Calls Tryz.prog 128 #[.slice p (setN l).length c,.slice q (setN m).length d] w fun e w'=>e= .returned (.tuple #[.bool (anyB l m),.nilIface])∧Below w.heap.size w w':=by
 have H1:=partsOfBoth_ok l m p q c d w hs hc hcm ht hd hdm hl hm
 have L1:l.length≤maxLen:=Nat.le_trans hl.len (by decide)
 have L2:m.length≤maxLen:=Nat.le_trans hm.len (by decide)
 clear hs ht
 go_enter Tryz.func128,Tryz.ntmps128
 go_wp2_with fail
 refine H1.mono ?_
 rintro e w1 ⟨⟨q1,c1,q2,c2,rfl,k1,k2,k3,k4,k5,k6⟩,hb1⟩
 have H2:=hadBy_any q1 l c1 w1 k1 L1
 clear H1
 go_wp2_with fail
 refine H2.mono ?_
 rintro e w2 ⟨⟨fv,rfl,hf⟩,hb2⟩
 have H4:=containsFunc_any m q2 c2 fv _ w2 (k4.up hb2) L2 hf
 clear H2
 go_wp2_with fail
 refine H4.mono ?_
 rintro e w4 ⟨rfl,hb4⟩
 go_wp2
 go_ret2
 have hb5:=hb1.trans (hb2.mono hb1.size)
 exact⟨rfl,hb5.trans (hb4.mono hb5.size)⟩
def hfault (s v:List Nd):Int:=if cfault s v=0 then(if isSetV s=true then 0 else 2)else cfault s v
theorem has_bad (s t:List Nd)(p q:Option Addr)(c d:Nat)(w:World)(hs:NL w p s)(hc:s.length≤c)(hcm:c≤maxLen)(ht:NL w q t)(hd:t.length≤d)(hdm:d≤maxLen)(h:hfault s t≠0):
 Calls Tryz.prog 126 #[.slice p s.length c,.slice q t.length d] w fun e w'=>e= .returned (.tuple #[.bool false,eV (hfault s t)])∧Below w.heap.size w w':=by
 have H1:=checkBoth_any s t p q c d w hs hc hcm ht hd hdm
 by_cases hz:cfault s t=0
 · rw[eV_nil hz]at H1
   obtain⟨h1,h2,_⟩:=sfault_v hz
   have h5:isSetV s=false:=by
    cases e:isSetV s with
    | false=>rfl
    | true=>unfold hfault at h;rw[if_pos hz,if_pos e]at h;exact absurd rfl h
   have h4:hfault s t=2:=by unfold hfault;rw[if_pos hz,h5];simp
   have H2:=fun w' (hb:Below w.heap.size w w')=>partsOf_type s p c w' (hs.up hb) hc hcm h1 h5
   rw[h4]
   rw[eV_not (by decide:(2:Int)≠0)]at H2 ⊢
   clear h4 h hz
   go_enter Tryz.func126,Tryz.ntmps126
   go_wp2_with fail
   refine H1.mono ?_
   rintro e w1 ⟨rfl,hb1⟩
   go_wp2_with fail
   refine(H2 w1 hb1).mono ?_
   rintro e w2 ⟨rfl,rfl⟩
   go_wp2
   go_ret2
   exact⟨rfl,hb1⟩
 · have h4:hfault s t=cfault s t:=by unfold hfault;rw[if_neg hz]
   rw[h4]
   rw[eV_not hz]at H1 ⊢
   go_enter Tryz.func126,Tryz.ntmps126
   go_wp2_with fail
   refine H1.mono ?_
   rintro e w1 ⟨rfl,hb1⟩
   go_wp2
   go_ret2
   exact⟨rfl,hb1⟩
theorem has_ok (l:List (List Nd))(t:List Nd)(p q:Option Addr)(c d:Nat)(w:World)(hs:NL w p (setN l))(hc:(setN l).length≤c)(hcm:c≤maxLen)(ht:NL w q t)(hd:t.length≤d)(hdm:d≤maxLen)(hl:IsSet l)(hv:vfault t=0):
 Calls Tryz.prog 126 #[.slice p (setN l).length c,.slice q t.length d] w fun e w'=>e= .returned (.tuple #[.bool (inB l t),.nilIface])∧Below w.heap.size w w':=by
 have H1:=checkBoth_any (setN l) t p q c d w hs hc hcm ht hd hdm
 have hz:cfault (setN l) t=0:=by unfold cfault;rw[if_pos hl.value];exact hv
 rw[eV_nil hz]at H1
 have H2:=fun w' (hb:Below w.heap.size w w')=>partsOf_set l p c w' (hs.up hb) hc hcm hl
 have L1:l.length≤maxLen:=Nat.le_trans hl.len (by decide)
 clear hz hs hl
 go_enter Tryz.func126,Tryz.ntmps126
 go_wp2_with fail
 refine H1.mono ?_
 rintro e w1 ⟨rfl,hb1⟩
 go_wp2_with fail
 refine(H2 w1 hb1).mono ?_
 rintro e w2 ⟨⟨q2,c2,rfl,k1,k2,k3,_⟩,hb2⟩
 have H3:=hadBy_any q2 l c2 w2 k1 L1
 have hb3:=hb1.trans (hb2.mono hb1.size)
 have ht2:=ht.up hb3
 clear H1 H2 ht
 go_wp2_with fail
 refine H3.mono ?_
 rintro e w3 ⟨⟨fv,rfl,hf⟩,hb4⟩
 obtain⟨g,lb,rfl,eg,hp⟩:=hf
 have H4:=hp w3 q t d (Below.refl _ _) (ht2.up hb4) hd hdm
 have hb5:=hb3.trans (hb4.mono hb3.size)
 clear H3 hp
 go_wp2_with (go_at_fn g;refine H4.mono ?_;rintro e w4 ⟨rfl,hb6⟩)
 go_ret2
 exact⟨rfl,hb5.trans (hb6.mono hb5.size)⟩
end Go.Proofs.YtnbkfggmpiccjaaGreatDoor
