import Derived.Test.YtgbljlabifpmgaaGreatDoorP21
import Derived.Test.YtgbljlabifpmgaaGreatDoorShelf
import Derived.Deep.QuietTactic
import Derived.BigQuiet
import Derived.Test.YtgbljlabifpmgaaGreatDoorP19
import Derived.Test.YtgbljlabifpmgaaGreatDoorP22
set_option linter.unusedVariables false
set_option maxHeartbeats 12000000
namespace Go.Proofs.YtgbljlabifpmgaaGreatDoor
open Go.RowKit Go.Shelf
set_option maxRecDepth 100000
theorem typed_new (w:World)(cs:Array Value)(t:TypeId):Typed (w.alloc (.cells cs t)) w.heap.size t:=⟨cs,(0,0),heap_alloc_new _ _⟩
section
variable (w:World) (B:Nat) (p:Option Addr) (c:Nat) (e:List Nd) (k:Nat) (v:Value) (L:List Tk)
theorem wsay1 (a:ByteArray)(h:WS w B p c e k v L)(hl:L.length≤900000)(ha:a.size≤maxLen):
 Calls Tryz.prog 20 #[.pointer (some ⟨B,0,none⟩),.slice (some ⟨w.heap.size,0,none⟩) 1 1] (w.alloc (.cells #[.string a] 9)) fun en w'=>en= .returned (.tuple #[])∧Wr B p c e k (L++[sayT a]) w w':=by
 have hb:Below w.heap.size w (w.alloc (.cells #[.string a] 9)):=(Below.refl _ _).alloc (Nat.le_refl _) _
 refine(wsay_any _ B p c e k v L [a] w.heap.size (h.up hb) hl (by simp) ?_ (typed_new _ _ _) (by simpa using ha)).mono ?_
 · intro i x hx
   match i,hx with
   | 0,hx=>simp at hx;subst hx;simp[go_sem]
 · rintro en w' ⟨rfl,h1,h2⟩
   exact⟨rfl,h1,(KW.of_below hb (Nat.le_of_lt h.lt)).trans h2⟩
theorem wsay2 (a b:ByteArray)(h:WS w B p c e k v L)(hl:L.length≤900000)(ha:a.size≤maxLen)(hb:b.size≤maxLen):
 Calls Tryz.prog 20 #[.pointer (some ⟨B,0,none⟩),.slice (some ⟨w.heap.size,0,none⟩) 2 2] (w.alloc (.cells #[.string a,.string b] 9)) fun en w'=>en= .returned (.tuple #[])∧Wr B p c e k (L++[sayT a,sayT b]) w w':=by
 have hbb:Below w.heap.size w (w.alloc (.cells #[.string a,.string b] 9)):=(Below.refl _ _).alloc (Nat.le_refl _) _
 refine(wsay_any _ B p c e k v L [a,b] w.heap.size (h.up hbb) hl (by simp) ?_ (typed_new _ _ _) (by simp[ha,hb])).mono ?_
 · intro i x hx
   match i,hx with
   | 0,hx=>simp at hx;subst hx;simp[go_sem]
   | 1,hx=>simp at hx;subst hx;simp[go_sem]
 · rintro en w' ⟨rfl,h1,h2⟩
   exact⟨rfl,h1,(KW.of_below hbb (Nat.le_of_lt h.lt)).trans h2⟩
theorem wsay3 (a b d:ByteArray)(h:WS w B p c e k v L)(hl:L.length≤900000)(ha:a.size≤maxLen)(hb:b.size≤maxLen)(hd:d.size≤maxLen):
 Calls Tryz.prog 20 #[.pointer (some ⟨B,0,none⟩),.slice (some ⟨w.heap.size,0,none⟩) 3 3] (w.alloc (.cells #[.string a,.string b,.string d] 9)) fun en w'=>en= .returned (.tuple #[])∧Wr B p c e k (L++[sayT a,sayT b,sayT d]) w w':=by
 have hbb:Below w.heap.size w (w.alloc (.cells #[.string a,.string b,.string d] 9)):=(Below.refl _ _).alloc (Nat.le_refl _) _
 refine(wsay_any _ B p c e k v L [a,b,d] w.heap.size (h.up hbb) hl (by simp) ?_ (typed_new _ _ _) (by simp[ha,hb,hd])).mono ?_
 · intro i x hx
   match i,hx with
   | 0,hx=>simp at hx;subst hx;simp[go_sem]
   | 1,hx=>simp at hx;subst hx;simp[go_sem]
   | 2,hx=>simp at hx;subst hx;simp[go_sem]
 · rintro en w' ⟨rfl,h1,h2⟩
   exact⟨rfl,h1,(KW.of_below hbb (Nat.le_of_lt h.lt)).trans h2⟩
theorem wnamed_slot (s:ByteArray)(h:WS w B p c e k v L)(hl:L.length≤900000)(hs:Lib.hasPrefix s.data.toList [63]=true):
 Calls Tryz.prog 67 #[.pointer (some ⟨B,0,none⟩),.string s] w fun en w'=>en= .returned (.tuple #[])∧Wr B p c e k (L++[⟨4,⟨(Lib.trimPrefix s.data.toList [63]).toArray⟩,0⟩]) w w':=by
 have HC:=Any.strings_CutPrefix Tryz.lays103 s ⟨#[63]⟩ w
 have e1:(⟨#[63]⟩:ByteArray).data.toList=[63]:=rfl
 rw[e1,hs]at HC
 have HA:=wadd_any w B p c e k v L 4 ⟨(Lib.trimPrefix s.data.toList [63]).toArray⟩ h (by omega)
 generalize (⟨(Lib.trimPrefix s.data.toList [63]).toArray⟩:ByteArray)=t at *
 clear e1 hs
 go_enter Tryz.func67,Tryz.ntmps67
 go_wp2_with fail
 refine HC.mono ?_
 rintro en w1 ⟨rfl,rfl⟩
 go_wp2_with fail
 refine HA.mono ?_
 rintro en w2 ⟨rfl,h2⟩
 go_wp2
 go_end0
 exact⟨rfl,h2⟩
theorem wnamed_name (s:ByteArray)(h:WS w B p c e k v L)(hl:L.length≤900000)(hs:Lib.hasPrefix s.data.toList [63]=false):
 Calls Tryz.prog 67 #[.pointer (some ⟨B,0,none⟩),.string s] w fun en w'=>en= .returned (.tuple #[])∧Wr B p c e k (L++[⟨1,s,0⟩]) w w':=by
 have HC:=Any.strings_CutPrefix Tryz.lays103 s ⟨#[63]⟩ w
 have e1:(⟨#[63]⟩:ByteArray).data.toList=[63]:=rfl
 rw[e1,hs]at HC
 have HA:=wadd_any w B p c e k v L 1 s h (by omega)
 generalize (⟨(Lib.trimPrefix s.data.toList [63]).toArray⟩:ByteArray)=t at *
 clear e1 hs
 go_enter Tryz.func67,Tryz.ntmps67
 go_wp2_with fail
 refine HC.mono ?_
 rintro en w1 ⟨rfl,rfl⟩
 go_wp2_with fail
 refine HA.mono ?_
 rintro en w2 ⟨rfl,h2⟩
 go_wp2
 go_end0
 exact⟨rfl,h2⟩
end
theorem dec_same:∀n:Nat,Lib.decDigits n=decL n:=by
 intro n
 induction n using Nat.strongRecOn with
 | ind n ih=>
   by_cases h:n<10
   · rw[Lib.decDigits,dif_pos h,decL_small h]
   · rw[Lib.decDigits,dif_neg h,decL_big h,ih (n / 10) (by omega)]
theorem dec_first (n:Nat):Lib.hasPrefix (decL n) [45]=false:=by
 have h:=decL_dig n
 have hn:=decL_ne n
 cases hd:decL n with
 | nil=>exact absurd hd hn
 | cons a r=>
   rw[hd]at h
   simp only[List.all_cons,Bool.and_eq_true]at h
   have:=dig_rng h.1
   have h45:a≠45:=by rintro rfl;simp at this
   simp[Lib.hasPrefix,List.isPrefixOf,Ne.symm h45]
section
variable (w:World) (B:Nat) (p:Option Addr) (c:Nat) (e:List Nd) (k:Nat) (v:Value) (L:List Tk)
theorem witoa (n:Int)(h0: -9223372036854775808≤n)(h1:n≤9223372036854775807)(h:Tab w):
 Calls Tryz.prog 88 #[.int .i64 n] w fun en w'=>en= .returned (.string ⟨(Lib.itoa n).toArray⟩)∧Below w.heap.size w w':=by
 refine(Any.strconv_Itoa Tryz.laysM171 n h0 h1 w h).mono ?_
 rintro en w' ⟨rfl,m,os,rfl⟩
 exact⟨rfl,rfl,rfl,rfl,by show w.heap.size≤(w.heap++os).size;rw[Array.size_append];omega,fun j hj=>Array.getElem?_append_left hj⟩
theorem wnumber_less (n:Int)(h0: -9223372036854775808≤n)(hn:n<0)(h:WS w B p c e k v L)(hl:L.length≤900000):
 Calls Tryz.prog 66 #[.pointer (some ⟨B,0,none⟩),.int .i64 n] w fun en w'=>en= .returned (.tuple #[])∧Wr B p c e k (L++[sgW [45],numW n.natAbs]) w w':=by
 have HI:=witoa w n h0 (by omega) h.tb
 have e0:Lib.itoa n=45::decL n.natAbs:=by unfold Lib.itoa;rw[if_pos hn,dec_same]
 rw[e0]at HI
 have HC:=fun w=>Any.strings_CutPrefix Tryz.lays103 ⟨(45::decL n.natAbs).toArray⟩ ⟨#[45]⟩ w
 have e1:(⟨#[45]⟩:ByteArray).data.toList=[45]:=rfl
 have e2:(⟨(45::decL n.natAbs).toArray⟩:ByteArray).data.toList=45::decL n.natAbs:=rfl
 have e3:Lib.hasPrefix (45::decL n.natAbs) [45]=true:=by simp[Lib.hasPrefix]
 have e4:Lib.trimPrefix (45::decL n.natAbs) [45]=decL n.natAbs:=by simp[Lib.trimPrefix,Lib.hasPrefix]
 simp only[e3,e4]at HC
 have HN:Hid ((numW n.natAbs)=⟨2,⟨(decL n.natAbs).toArray⟩,0⟩):=rfl
 have HS:Hid (sgW [45]=sayT ⟨#[45]⟩):=by show _=_;kernel_rfl
 rw[HN.out,HS.out]
 generalize (⟨(decL n.natAbs).toArray⟩:ByteArray)=t at *
 generalize (⟨(45::decL n.natAbs).toArray⟩:ByteArray)=u at *
 clear e0 e1 e2 e3 e4 HN HS
 go_enter Tryz.func66,Tryz.ntmps66
 go_wp2_with fail
 refine HI.mono ?_
 rintro en w1 ⟨rfl,hb1⟩
 have h1:=h.up hb1
 go_wp2_with fail
 refine(HC _).mono ?_
 rintro en w5 ⟨rfl,rfl⟩
 go_wp2_with fail
 refine(wsay1 w5 B p c e k v L ⟨#[45]⟩ h1 hl (by unfold maxLen;decide)).mono ?_
 rintro en w2 ⟨rfl,⟨v2,h2⟩,k2⟩
 go_wp2_with fail
 refine(wadd_any w2 B p c e k v2 _ 2 t h2 (by simp;omega)).mono ?_
 rintro en w3 ⟨rfl,⟨v3,h3⟩,k3⟩
 go_wp2
 go_end0
 rw[List.append_assoc]at h3
 exact⟨rfl,⟨v3,h3⟩,((KW.of_below hb1 (Nat.le_of_lt h.lt)).trans k2).trans k3⟩
theorem wnumber_more (n:Int)(h1:n≤9223372036854775807)(hn:¬n<0)(h:WS w B p c e k v L)(hl:L.length≤900000):
 Calls Tryz.prog 66 #[.pointer (some ⟨B,0,none⟩),.int .i64 n] w fun en w'=>en= .returned (.tuple #[])∧Wr B p c e k (L++[numW n.natAbs]) w w':=by
 have HI:=witoa w n (by omega) h1 h.tb
 have en0:n.toNat=n.natAbs:=by omega
 have e0:Lib.itoa n=decL n.natAbs:=by unfold Lib.itoa;rw[if_neg hn,dec_same,en0]
 rw[e0]at HI
 have HC:=fun w=>Any.strings_CutPrefix Tryz.lays103 ⟨(decL n.natAbs).toArray⟩ ⟨#[45]⟩ w
 have e1:(⟨#[45]⟩:ByteArray).data.toList=[45]:=rfl
 have e2:(⟨(decL n.natAbs).toArray⟩:ByteArray).data.toList=decL n.natAbs:=rfl
 have e3:=dec_first n.natAbs
 have e4:Lib.trimPrefix (decL n.natAbs) [45]=decL n.natAbs:=by simp[Lib.trimPrefix,e3]
 simp only[e3,e4]at HC
 have HN:Hid ((numW n.natAbs)=⟨2,⟨(decL n.natAbs).toArray⟩,0⟩):=rfl
 rw[HN.out]
 generalize (⟨(decL n.natAbs).toArray⟩:ByteArray)=t at *
 clear e0 e1 e2 e3 e4 HN
 go_enter Tryz.func66,Tryz.ntmps66
 go_wp2_with fail
 refine HI.mono ?_
 rintro en w1 ⟨rfl,hb1⟩
 have h1':=h.up hb1
 go_wp2_with fail
 refine(HC _).mono ?_
 rintro en w5 ⟨rfl,rfl⟩
 go_wp2_with fail
 refine(wadd_any w5 B p c e k v _ 2 t h1' (by omega)).mono ?_
 rintro en w3 ⟨rfl,⟨v3,h3⟩,k3⟩
 go_wp2
 go_end0
 exact⟨rfl,⟨v3,h3⟩,(KW.of_below hb1 (Nat.le_of_lt h.lt)).trans k3⟩
end
def BareOk (f B:Nat)(p:Option Addr)(c:Nat)(e:List Nd):Prop:=∀(w:World) (k:Nat) (v:Value) (L:List Tk) (r:List Nd),WS w B p c e k v L→pastE f (e.drop k)=some r→L.length+20*(e.length-k)≤100010→
 Calls Tryz.prog 19 #[.pointer (some ⟨B,0,none⟩)] w fun en w'=>en= .returned (.tuple #[])∧Wr B p c e (e.length-r.length) (L++wdE f (e.drop k)) w w'∧1≤(wdE f (e.drop k)).length∧(wdE f (e.drop k)).length+2+12*r.length≤12*(e.length-k)
def PartOk (f B:Nat)(p:Option Addr)(c:Nat)(e:List Nd):Prop:=∀(w:World) (k:Nat) (v:Value) (L:List Tk) (r:List Nd) (fm:Nat),WS w B p c e k v L→pastE f (e.drop k)=some r→L.length+20*(e.length-k)≤100000→
 Calls Tryz.prog 11 #[.pointer (some ⟨B,0,none⟩),.int .i64 (fm:Int)] w fun en w'=>en= .returned (.tuple #[])∧Wr B p c e (e.length-r.length) (L++partW (wdE f) fm (e.drop k)) w w'∧1≤(partW (wdE f) fm (e.drop k)).length∧(partW (wdE f) fm (e.drop k)).length+12*r.length≤12*(e.length-k)∧(wdE f (e.drop k)).length+2+12*r.length≤12*(e.length-k)
theorem nd_suffix {e r:List Nd}{f k:Nat}(h:pastE f (e.drop k)=some r):e.drop (e.length-r.length)=r∧r.length<e.length-k:=by
 have h2:=(pastE_shorter h).1
 rw[List.length_drop]at h2
 obtain⟨a,ha,_⟩:=pastE_all f _ _ h
 refine⟨?_,h2⟩
 have hs:e=(e.take k++a)++r:=by rw[List.append_assoc,←ha,List.take_append_drop]
 have hl:=congrArg List.length hs
 rw[List.length_append]at hl
 have e0:e.length-r.length=(e.take k++a).length:=by omega
 rw[e0]
 generalize e.take k++a=m at *
 rw[hs]
 exact List.drop_left ..
theorem past_op {e r:List Nd}{f k:Nat}(h:pastE f (e.drop k)=some r):∃x,e[k]? =some x∧opX (e.drop k)=x.op∧exOk x=true∧x.op≠7:=by
 obtain⟨g,x,m,_,hv,h7,hx,_⟩:=pastE_cons h
 refine⟨x,?_,by rw[hv];rfl,hx,h7⟩
 have:=congrArg List.head? hv
 rwa [List.head?_drop,List.head?_cons]at this
theorem dN (w:World)(n:Nat):Below w.heap.size w (w.drewN n):=⟨rfl,rfl,rfl,Nat.le_refl _,fun _ _=>rfl⟩
theorem sayL:sayT ⟨#[40]⟩=sgW [40]:=by kernel_rfl
theorem sayR:sayT ⟨#[41]⟩=sgW [41]:=by kernel_rfl
theorem part_ok {f B:Nat}{p:Option Addr}{c:Nat}{e:List Nd}(hbare:BareOk f B p c e):PartOk f B p c e:=by
 intro w k v L r fm h hp hl
 obtain⟨x,hx,hop,_,_⟩:=past_op hp
 have hk:k<e.length:=(List.getElem?_eq_some_iff.1 hx).1
 have hex:e[k]=x:=by rw[List.getElem?_eq_getElem hk]at hx;exact Option.some.inj hx
 obtain⟨bq,oq,hpq,hbq,e0,e1,e2,e3,_⟩:=h.nl.at hk
 rw[hex]at e0 e1 e2 e3
 subst hpq
 have c0:=h.c0
 have c1:=h.c1
 have hlt:=h.lt
 have i1:(k:Int)<(e.length:Int):=by omega
 have hle:=h.len
 by_cases hf:fm≤lvO x.op
 · have i2:(fm:Int)≤(lvO x.op:Int):=by omega
   have HW:Hid (partW (wdE f) fm (e.drop k)=wdE f (e.drop k)):=by show _=_;unfold partW;rw[hop,if_neg (by omega)]
   go_enter Tryz.func11,Tryz.ntmps11
   go_wp2_with fail
   go_quiet ((go_at_call 18;exact Calls.quiet_of_same (formOf_any _ _)))
   have hbd:=dN w nq
   have hd:=h.up hbd
   generalize w.drewN nq=wd at *
   clear c0 c1 e0 e1 e2 e3
   go_wp2_with fail
   refine(hbare wd k v L r hd hp (by omega)).mono ?_
   rintro en w1 ⟨rfl,⟨h1,k1⟩,l0,l1⟩
   go_wp2
   refine bodyPost_ret (v:=.tuple #[]) (by simp[results,Tryz.results11,go_sem]) rfl ?_
   rw[HW.out]
   exact⟨rfl,⟨h1,(KW.of_below hbd (Nat.le_of_lt hlt)).trans k1⟩,l0,by omega,by omega⟩
 · have i2:¬(fm:Int)≤(lvO x.op:Int):=by omega
   have HW:Hid (partW (wdE f) fm (e.drop k)=brk (wdE f (e.drop k))):=by show _=_;unfold partW;rw[hop,if_pos (by omega)]
   have HK:Hid (L++brk (wdE f (e.drop k))=L++[sgW [40]]++wdE f (e.drop k)++[sgW [41]]):=by show _=_;simp[brk]
   have hlb:(brk (wdE f (e.drop k))).length=(wdE f (e.drop k)).length+2:=by simp[brk]
   go_enter Tryz.func11,Tryz.ntmps11
   go_wp2_with fail
   go_quiet ((go_at_call 18;exact Calls.quiet_of_same (formOf_any _ _)))
   have hbd:=dN w nq
   have hd:=h.up hbd
   generalize w.drewN nq=wd at *
   clear c0 c1 e0 e1 e2 e3
   go_wp2_with fail
   refine(wsay1 wd B _ c e k v L ⟨#[40]⟩ hd (by omega) (by unfold maxLen;decide)).mono ?_
   rintro en w1 ⟨rfl,⟨v1,h1⟩,k1⟩
   rw[sayL]at h1
   go_wp2_with fail
   refine(hbare w1 k v1 _ r h1 hp (by simp;omega)).mono ?_
   rintro en w2 ⟨rfl,⟨⟨v2,h2⟩,k2⟩,l0,l1⟩
   go_wp2_with fail
   refine(wsay1 w2 B _ c e _ v2 _ ⟨#[41]⟩ h2 (by simp;omega) (by unfold maxLen;decide)).mono ?_
   rintro en w3 ⟨rfl,⟨v3,h3⟩,k3⟩
   rw[sayR]at h3
   go_wp2
   go_end0
   rw[HW.out]
   exact⟨rfl,⟨⟨v3,by rw[HK.out];exact h3⟩,(((KW.of_below hbd (Nat.le_of_lt hlt)).trans k1).trans k2).trans k3⟩,by omega,by omega,by omega⟩
theorem between_ok {f B:Nat}{p:Option Addr}{c:Nat}{e:List Nd}(hpart:PartOk f B p c e)(w:World)(k:Nat)(v:Value)(L:List Tk)(r s:List Nd)(fm gm:Nat)(t:ByteArray)(h:WS w B p c e k v L)
 (hp:pastE f (e.drop k)=some r) (hq:pastE f r=some s) (hl:L.length+20*(e.length-k)≤99990) (ht:t.size≤maxLen):
 Calls Tryz.prog 35 #[.pointer (some ⟨B,0,none⟩),.int .i64 (fm:Int),.string t,.int .i64 (gm:Int)] w fun en w'=>en= .returned (.tuple #[])∧Wr B p c e (e.length-s.length) (L++(partW (wdE f) fm (e.drop k)++sayT t::partW (wdE f) gm r)) w w'∧
  (partW (wdE f) fm (e.drop k)++sayT t::partW (wdE f) gm r).length+12*s.length≤12*(e.length-k)+1:=by
 obtain⟨hs1,hs2⟩:=nd_suffix hp
 have HA:Hid (L++(partW (wdE f) fm (e.drop k)++sayT t::partW (wdE f) gm r)=L++partW (wdE f) fm (e.drop k)++[sayT t]++partW (wdE f) gm r):=by show _=_;simp
 have hlt:=h.lt
 have hkl:=h.le
 go_enter Tryz.func35,Tryz.ntmps35
 go_wp2_with fail
 refine(hpart w k v L r fm h hp (by omega)).mono ?_
 rintro en w1 ⟨rfl,⟨⟨v1,h1⟩,k1⟩,l0,l1⟩
 go_wp2_with fail
 refine(wsay1 w1 B p c e _ v1 _ t h1 (by simp;omega) ht).mono ?_
 rintro en w2 ⟨rfl,⟨v2,h2⟩,k2⟩
 have h2':=hpart w2 (e.length-r.length) v2 _ s gm h2 (by rw[hs1];exact hq) (by simp;omega)
 rw[hs1]at h2'
 go_wp2_with fail
 refine h2'.mono ?_
 rintro en w3 ⟨rfl,⟨⟨v3,h3⟩,k3⟩,l2,l3⟩
 go_wp2
 go_end0
 exact⟨rfl,⟨⟨v3,by rw[HA.out];exact h3⟩,(k1.trans k2).trans k3⟩,by simp;omega⟩
theorem say_name {s:ByteArray}(h:nfault s.data.toList=0):sayT s=nmW s.data.toList:=by
 unfold sayT nmW mkT
 rw[if_pos h]
 rfl
theorem quo_word (s:ByteArray):(⟨3,s,0⟩:Tk)=qtW s.data.toList:=by
 unfold qtW mkT
 rfl
def Wrote (B:Nat)(p:Option Addr)(c:Nat)(e:List Nd)(k:Nat)(s:List Nd)(L W:List Tk)(w:World)(en:Ending)(w':World):Prop:=
 en= .returned (.tuple #[])∧Wr B p c e (e.length-s.length) (L++W) w w'∧W.length+12*s.length≤12*(e.length-k)+8
def ndW (x:Nd):Value:=.agg #[.int .i64 x.op,.int .i64 x.n,.string x.s,.string x.t]
section
variable {f B:Nat} {p:Option Addr} {c:Nat} {e:List Nd} (hpart:PartOk f B p c e) (w:World) (k:Nat) (v:Value) (L:List Tk) (r s:List Nd)
include hpart
theorem wsum_ok (x:Nd)(h:WS w B p c e k v L)(hp:pastE f (e.drop k)=some r)(hq:pastE f r=some s)(hl:L.length+20*(e.length-k)≤99990)(hx:x.op=17∨x.op=18):
 Calls Tryz.prog 37 #[.pointer (some ⟨B,0,none⟩),ndW x] w (Wrote B p c e k s L (partW (wdE f) 4 (e.drop k)++signW x.op::partW (wdE f) 5 r) w):=by
 obtain⟨op,n,a,b⟩:=x
 have hb0:Below w.heap.size w (w.alloc (.cells #[.int .i64 op,.int .i64 n,.string a,.string b] 29)):=(Below.refl _ _).alloc (Nat.le_refl _) _
 have h0:=h.up hb0
 have hlt:=Nat.le_of_lt h.lt
 unfold ndW
 dsimp only at hx ⊢
 rcases hx with rfl | rfl
 · have HB:=between_ok hpart _ k v L r s 4 5 ⟨#[43]⟩ h0 hp hq hl (by unfold maxLen;decide)
   rw[show sayT ⟨#[43]⟩=signW 17 by kernel_rfl]at HB
   go_enter Tryz.func37,Tryz.ntmps37
   go_wp2_with fail
   refine HB.mono ?_
   rintro en w1 ⟨rfl,⟨h1,k1⟩,l1⟩
   go_wp2
   go_end0
   exact⟨rfl,⟨h1,(KW.of_below hb0 hlt).trans k1⟩,by omega⟩
 · have HB:=between_ok hpart _ k v L r s 4 5 ⟨#[45]⟩ h0 hp hq hl (by unfold maxLen;decide)
   rw[show sayT ⟨#[45]⟩=signW 18 by kernel_rfl]at HB
   go_enter Tryz.func37,Tryz.ntmps37
   go_wp2_with fail
   refine HB.mono ?_
   rintro en w1 ⟨rfl,⟨h1,k1⟩,l1⟩
   go_wp2
   go_end0
   exact⟨rfl,⟨h1,(KW.of_below hb0 hlt).trans k1⟩,by omega⟩
theorem wrel_two (x:Nd)(h:WS w B p c e k v L)(hp:pastE f (e.drop k)=some r)(hq:pastE f r=some s)(hl:L.length+20*(e.length-k)≤99990)(hx:x.op=14∨x.op=15∨x.op=16∨x.op=20):
 Calls Tryz.prog 36 #[.pointer (some ⟨B,0,none⟩),ndW x] w (Wrote B p c e k s L (partW (wdE f) 4 (e.drop k)++signW x.op::partW (wdE f) 4 r) w):=by
 obtain⟨op,n,a,b⟩:=x
 have hb0:Below w.heap.size w (w.alloc (.cells #[.int .i64 op,.int .i64 n,.string a,.string b] 29)):=(Below.refl _ _).alloc (Nat.le_refl _) _
 have h0:=h.up hb0
 have hlt:=Nat.le_of_lt h.lt
 unfold ndW
 dsimp only at hx ⊢
 have HT:∃t:ByteArray,sayT t=signW op∧t.size≤maxLen∧((op=14∧t=⟨#[61,61]⟩)∨(op=15∧t=⟨#[60]⟩)∨(op=16∧t=⟨#[60,61]⟩)∨(op=20∧t=⟨#[105,110]⟩)):=by
  rcases hx with rfl | rfl | rfl | rfl
  · exact⟨⟨#[61,61]⟩,by kernel_rfl,by unfold maxLen;decide,.inl ⟨rfl,rfl⟩⟩
  · exact⟨⟨#[60]⟩,by kernel_rfl,by unfold maxLen;decide,.inr (.inl ⟨rfl,rfl⟩)⟩
  · exact⟨⟨#[60,61]⟩,by kernel_rfl,by unfold maxLen;decide,.inr (.inr (.inl ⟨rfl,rfl⟩))⟩
  · exact⟨⟨#[105,110]⟩,by kernel_rfl,by unfold maxLen;decide,.inr (.inr (.inr ⟨rfl,rfl⟩))⟩
 obtain⟨t,ht,htz,hc⟩:=HT
 have HB:=between_ok hpart _ k v L r s 4 4 t h0 hp hq hl htz
 rw[ht]at HB
 clear hx ht htz
 rcases hc with⟨rfl,rfl⟩ | ⟨rfl,rfl⟩ | ⟨rfl,rfl⟩ | ⟨rfl,rfl⟩
 all_goals
  go_enter Tryz.func36,Tryz.ntmps36
  go_wp2_with fail
  refine HB.mono ?_
  rintro en w1 ⟨rfl,⟨h1,k1⟩,l1⟩
  go_wp2
  go_end0
  exact⟨rfl,⟨h1,(KW.of_below hb0 hlt).trans k1⟩,by omega⟩
theorem wrel_name (x:Nd)(h:WS w B p c e k v L)(hp:pastE f (e.drop k)=some r)(hl:L.length+20*(e.length-k)≤99990)(hx:x.op=21∨x.op=24)(hn:nfault x.s.data.toList=0)(hz:x.s.size≤maxLen):
 Calls Tryz.prog 36 #[.pointer (some ⟨B,0,none⟩),ndW x] w (Wrote B p c e k r L (partW (wdE f) 4 (e.drop k)++[nmW (if x.op=21 then wHas else wIs),nmW x.s.data.toList]) w):=by
 obtain⟨op,n,a,b⟩:=x
 have hb0:Below w.heap.size w (w.alloc (.cells #[.int .i64 op,.int .i64 n,.string a,.string b] 29)):=(Below.refl _ _).alloc (Nat.le_refl _) _
 have h0:=h.up hb0
 have hlt:=Nat.le_of_lt h.lt
 have hkl:=h.le
 unfold ndW
 dsimp only at hx hn hz ⊢
 rw[←say_name hn]
 have HP:=hpart _ k v L r 4 h0 hp (by omega)
 rcases hx with rfl | rfl
 · rw[if_pos rfl,show nmW wHas=sayT ⟨#[104,97,115]⟩ by kernel_rfl]
   go_enter Tryz.func36,Tryz.ntmps36
   go_wp2_with fail
   refine HP.mono ?_
   rintro en w1 ⟨rfl,⟨⟨v1,h1⟩,k1⟩,l0,l1⟩
   have c2:w1.cell? ⟨w.heap.size,2,none⟩=some (.string a):=(k1.cellT (by decide) (by decide) (typed_new _ _ _) 2).trans (by simp[go_sem])
   go_wp2_with fail
   refine(wsay2 w1 B p c e _ v1 _ ⟨#[104,97,115]⟩ a h1 (by simp;omega) (by unfold maxLen;decide) hz).mono ?_
   rintro en w2 ⟨rfl,⟨v2,h2⟩,k2⟩
   go_wp2
   go_end0
   exact⟨rfl,⟨⟨v2,by rw[←List.append_assoc];exact h2⟩,((KW.of_below hb0 hlt).trans k1).trans k2⟩,by simp;omega⟩
 · rw[if_neg (by decide),show nmW wIs=sayT ⟨#[105,115]⟩ by kernel_rfl]
   go_enter Tryz.func36,Tryz.ntmps36
   go_wp2_with fail
   refine HP.mono ?_
   rintro en w1 ⟨rfl,⟨⟨v1,h1⟩,k1⟩,l0,l1⟩
   have c2:w1.cell? ⟨w.heap.size,2,none⟩=some (.string a):=(k1.cellT (by decide) (by decide) (typed_new _ _ _) 2).trans (by simp[go_sem])
   go_wp2_with fail
   refine(wsay2 w1 B p c e _ v1 _ ⟨#[105,115]⟩ a h1 (by simp;omega) (by unfold maxLen;decide) hz).mono ?_
   rintro en w2 ⟨rfl,⟨v2,h2⟩,k2⟩
   go_wp2
   go_end0
   exact⟨rfl,⟨⟨v2,by rw[←List.append_assoc];exact h2⟩,((KW.of_below hb0 hlt).trans k1).trans k2⟩,by simp;omega⟩
theorem wrel_like (x:Nd)(h:WS w B p c e k v L)(hp:pastE f (e.drop k)=some r)(hl:L.length+20*(e.length-k)≤99990)(hx:x.op=23):
 Calls Tryz.prog 36 #[.pointer (some ⟨B,0,none⟩),ndW x] w (Wrote B p c e k r L (partW (wdE f) 4 (e.drop k)++[nmW wLike,qtW x.s.data.toList]) w):=by
 obtain⟨op,n,a,b⟩:=x
 have hb0:Below w.heap.size w (w.alloc (.cells #[.int .i64 op,.int .i64 n,.string a,.string b] 29)):=(Below.refl _ _).alloc (Nat.le_refl _) _
 have h0:=h.up hb0
 have hlt:=Nat.le_of_lt h.lt
 have hkl:=h.le
 unfold ndW
 dsimp only at hx ⊢
 rw[←quo_word a]
 have HP:=hpart _ k v L r 4 h0 hp (by omega)
 subst hx
 rw[show nmW wLike=sayT ⟨#[108,105,107,101]⟩ by kernel_rfl]
 go_enter Tryz.func36,Tryz.ntmps36
 go_wp2_with fail
 refine HP.mono ?_
 rintro en w1 ⟨rfl,⟨⟨v1,h1⟩,k1⟩,l0,l1⟩
 have c2:w1.cell? ⟨w.heap.size,2,none⟩=some (.string a):=(k1.cellT (by decide) (by decide) (typed_new _ _ _) 2).trans (by simp[go_sem])
 have t2:=(typed_new w #[.int .i64 23,.int .i64 n,.string a,.string b] 29).same (k1.typed _ _ (by decide) (by decide) (typed_new _ _ _))
 go_wp2_with fail
 refine(wsay1 w1 B p c e _ v1 _ ⟨#[108,105,107,101]⟩ h1 (by simp;omega) (by unfold maxLen;decide)).mono ?_
 rintro en w2 ⟨rfl,⟨v2,h2⟩,k2⟩
 have c3:w2.cell? ⟨w.heap.size,2,none⟩=some (.string a):=(k2.cellT (by decide) (by decide) t2 2).trans c2
 go_wp2_with fail
 refine(wadd_any w2 B p c e _ v2 _ 3 a h2 (by simp;omega)).mono ?_
 rintro en w3 ⟨rfl,⟨v3,h3⟩,k3⟩
 go_wp2
 go_end0
 rw[List.append_assoc,List.append_assoc]at h3
 exact⟨rfl,⟨⟨v3,h3⟩,(((KW.of_below hb0 hlt).trans k1).trans k2).trans k3⟩,by simp;omega⟩
end
theorem part0 (g:List Nd→List Tk)(m:List Nd):partW g 0 m=g m:=by unfold partW;rw[if_neg (by omega)]
section
variable {f B:Nat} {p:Option Addr} {c:Nat} {e:List Nd} (hpart:PartOk f B p c e) (w:World) (k:Nat) (v:Value) (L:List Tk) (r s:List Nd)
include hpart
theorem wpost_get (x:Nd)(h:WS w B p c e k v L)(hp:pastE f (e.drop k)=some r)(hl:L.length+20*(e.length-k)≤99990)(hx:x.op=22)(hn:nfault x.s.data.toList=0)(hz:x.s.size≤maxLen):
 Calls Tryz.prog 39 #[.pointer (some ⟨B,0,none⟩),ndW x] w (Wrote B p c e k r L (partW (wdE f) 7 (e.drop k)++[sgW [46],nmW x.s.data.toList]) w):=by
 obtain⟨op,n,a,b⟩:=x
 have hb0:Below w.heap.size w (w.alloc (.cells #[.int .i64 op,.int .i64 n,.string a,.string b] 29)):=(Below.refl _ _).alloc (Nat.le_refl _) _
 have h0:=h.up hb0
 have hlt:=Nat.le_of_lt h.lt
 have hkl:=h.le
 unfold ndW
 dsimp only at hx hn hz ⊢
 rw[←say_name hn]
 have HP:=hpart _ k v L r 7 h0 hp (by omega)
 subst hx
 rw[show sgW [46]=sayT ⟨#[46]⟩ by kernel_rfl]
 go_enter Tryz.func39,Tryz.ntmps39
 go_wp2_with fail
 refine HP.mono ?_
 rintro en w1 ⟨rfl,⟨⟨v1,h1⟩,k1⟩,l0,l1⟩
 have c0:w1.cell? ⟨w.heap.size,0,none⟩=some (.int .i64 22):=(k1.cellT (by decide) (by decide) (typed_new _ _ _) 0).trans (by simp[go_sem])
 have c2:w1.cell? ⟨w.heap.size,2,none⟩=some (.string a):=(k1.cellT (by decide) (by decide) (typed_new _ _ _) 2).trans (by simp[go_sem])
 go_wp2_with fail
 refine(wsay2 w1 B p c e _ v1 _ ⟨#[46]⟩ a h1 (by simp;omega) (by unfold maxLen;decide) hz).mono ?_
 rintro en w2 ⟨rfl,⟨v2,h2⟩,k2⟩
 go_wp2
 refine bodyPost_ret (results_none rfl _ _ _) rfl ?_
 exact⟨rfl,⟨⟨v2,by rw[←List.append_assoc];exact h2⟩,((KW.of_below hb0 hlt).trans k1).trans k2⟩,by simp;omega⟩
theorem wpost_call (x:Nd)(h:WS w B p c e k v L)(hp:pastE f (e.drop k)=some r)(hq:pastE f r=some s)(hl:L.length+20*(e.length-k)≤99990)(hx:x.op=25∨x.op=26∨x.op=27):
 Calls Tryz.prog 39 #[.pointer (some ⟨B,0,none⟩),ndW x] w (Wrote B p c e k s L (partW (wdE f) 7 (e.drop k)++sgW [46]::nmW (callW x.op)::brk (wdE f r)) w):=by
 obtain⟨op,n,a,b⟩:=x
 obtain⟨hs1,hs2⟩:=nd_suffix hp
 have hb0:Below w.heap.size w (w.alloc (.cells #[.int .i64 op,.int .i64 n,.string a,.string b] 29)):=(Below.refl _ _).alloc (Nat.le_refl _) _
 have h0:=h.up hb0
 have hlt:=Nat.le_of_lt h.lt
 have hkl:=h.le
 unfold ndW
 dsimp only at hx ⊢
 have HP:=hpart _ k v L r 7 h0 hp (by omega)
 have HT:∃t:ByteArray,sayT t=nmW (callW op)∧t.size≤maxLen∧((op=25∧t=⟨#[99,111,110,116,97,105,110,115]⟩)∨(op=26∧t=⟨#[99,111,110,116,97,105,110,115,65,108,108]⟩)∨(op=27∧t=⟨#[99,111,110,116,97,105,110,115,65,110,121]⟩)):=by
  rcases hx with rfl | rfl | rfl
  · exact⟨_,by kernel_rfl,by unfold maxLen;decide,.inl ⟨rfl,rfl⟩⟩
  · exact⟨_,by kernel_rfl,by unfold maxLen;decide,.inr (.inl ⟨rfl,rfl⟩)⟩
  · exact⟨_,by kernel_rfl,by unfold maxLen;decide,.inr (.inr ⟨rfl,rfl⟩)⟩
 obtain⟨t,ht,htz,hc⟩:=HT
 have HA:Hid (L++(partW (wdE f) 7 (e.drop k)++sgW [46]::nmW (callW op)::brk (wdE f r))=L++partW (wdE f) 7 (e.drop k)++[sayT ⟨#[46]⟩,sayT t,sayT ⟨#[40]⟩]++wdE f r++[sayT ⟨#[41]⟩]):=by
  show _=_
  rw[ht,sayL,sayR,show sayT ⟨#[46]⟩=sgW [46] by kernel_rfl]
  simp[brk]
 have HL:Hid ((partW (wdE f) 7 (e.drop k)++sgW [46]::nmW (callW op)::brk (wdE f r)).length=(partW (wdE f) 7 (e.drop k)).length+(wdE f r).length+4):=by show _=_;simp[brk];omega
 have HC0:∀w1,KW B (w.alloc (.cells #[.int .i64 op,.int .i64 n,.string a,.string b] 29)) w1→w1.cell? ⟨w.heap.size,0,none⟩=some (.int .i64 op):=fun w1 k1=>(k1.cellT (by decide) (by decide) (typed_new _ _ _) 0).trans (by simp[go_sem])
 clear ht hx
 have HZ:Hid (t.size≤maxLen):=htz
 clear htz
 rcases hc with⟨rfl,rfl⟩ | ⟨rfl,rfl⟩ | ⟨rfl,rfl⟩
 all_goals
  go_enter Tryz.func39,Tryz.ntmps39
  go_wp2_with fail
  refine HP.mono ?_
  rintro en w1 ⟨rfl,⟨⟨v1,h1⟩,k1⟩,l0,l1⟩
  have c0:=HC0 w1 k1
  go_wp2_with fail
  refine(wsay3 w1 B p c e _ v1 _ _ _ _ h1 (by simp;omega) (by unfold maxLen;decide) HZ.out (by unfold maxLen;decide)).mono ?_
  rintro en w2 ⟨rfl,⟨v2,h2⟩,k2⟩
  have h2':=hpart w2 (e.length-r.length) v2 _ s 0 h2 (by rw[hs1];exact hq) (by simp;omega)
  rw[hs1,part0]at h2'
  go_wp2_with fail
  refine h2'.mono ?_
  rintro en w3 ⟨rfl,⟨⟨v3,h3⟩,k3⟩,l2,l3⟩
  go_wp2_with fail
  refine(wsay1 w3 B p c e _ v3 _ ⟨#[41]⟩ h3 (by simp;omega) (by unfold maxLen;decide)).mono ?_
  rintro en w4 ⟨rfl,⟨v4,h4⟩,k4⟩
  go_wp2
  go_end0
  exact⟨rfl,⟨⟨v4,by rw[HA.out];exact h4⟩,((((KW.of_below hb0 hlt).trans k1).trans k2).trans k3).trans k4⟩,by rw[HL.out];omega⟩
end
section
variable {f B:Nat} {p:Option Addr} {c:Nat} {e:List Nd} (hpart:PartOk f B p c e) (w:World) (k:Nat) (v:Value) (L:List Tk) (r s:List Nd)
include hpart
theorem witem_ok (h:WS w B p c e k v L)(hp:pastE f (e.drop k)=some r)(hl:L.length+20*(e.length-k)≤100000):
 Calls Tryz.prog 69 #[.pointer (some ⟨B,0,none⟩)] w fun en w'=>en= .returned (.tuple #[])∧Wr B p c e (e.length-r.length) (L++wdE f (e.drop k)) w w'∧(wdE f (e.drop k)).length+2+12*r.length≤12*(e.length-k):=by
 have HP:=hpart w k v L r 0 h hp hl
 rw[part0]at HP
 go_enter Tryz.func69,Tryz.ntmps69
 go_wp2_with fail
 refine HP.mono ?_
 rintro en w1 ⟨rfl,h1,l0,l1⟩
 go_wp2
 go_end0
 exact⟨rfl,h1,l1.2⟩
theorem wfield_ok (x:Nd)(m:List Nd)(h:WS w B p c e k v L)(hv:e.drop k=x::m)(hn:nfault x.s.data.toList=0)(hz:x.s.size≤maxLen)(hp:pastE f m=some r)(hl:L.length+20*(e.length-k)≤100000):
 Calls Tryz.prog 70 #[.pointer (some ⟨B,0,none⟩)] w fun en w'=>en= .returned (.tuple #[])∧Wr B p c e (e.length-r.length) (L++nmW x.s.data.toList::sgW [58]::wdE f m) w w'∧(nmW x.s.data.toList::sgW [58]::wdE f m).length+2+12*r.length≤12*(e.length-k):=by
 have hx:e[k]? =some x:=by
  have:=congrArg List.head? hv
  rwa [List.head?_drop,List.head?_cons]at this
 have hm:e.drop (k+1)=m:=by
  have:=congrArg List.tail hv
  rwa [List.tail_drop,List.tail_cons]at this
 have hk:k<e.length:=(List.getElem?_eq_some_iff.1 hx).1
 have HT:=wtake_any w B p c e k v L x h hx
 have HA:Hid (L++nmW x.s.data.toList::sgW [58]::wdE f m=L++[sayT x.s,sayT ⟨#[58]⟩]++wdE f m):=by
  show _=_
  rw[say_name hn,show sayT ⟨#[58]⟩=sgW [58] by kernel_rfl];simp
 have hfd:∀w,(Instr.field 29 (.agg #[.int .i64 x.op,.int .i64 x.n,.string x.s,.string x.t]) 2).run Tryz.prog w= .ok (.string x.s) w:=by intro w;rfl
 go_enter Tryz.func70,Tryz.ntmps70
 go_wp2_with fail
 refine HT.mono ?_
 rintro en w1 ⟨rfl,⟨v1,h1⟩,k1⟩
 go_wp2_with fail
 refine(wsay2 w1 B p c e _ v1 _ x.s ⟨#[58]⟩ h1 (by omega) hz (by unfold maxLen;decide)).mono ?_
 rintro en w2 ⟨rfl,⟨v2,h2⟩,k2⟩
 have HP:=hpart w2 (k+1) v2 _ r 0 h2 (by rw[hm];exact hp) (by rw[List.length_append];simp only[List.length_cons,List.length_nil];omega)
 rw[hm,part0]at HP
 go_wp2_with fail
 refine HP.mono ?_
 rintro en w3 ⟨rfl,⟨⟨v3,h3⟩,k3⟩,l0,l1⟩
 go_wp2
 go_end0
 exact⟨rfl,⟨⟨v3,by rw[HA.out];exact h3⟩,(k1.trans k2).trans k3⟩,by first | omega | (simp;omega)⟩
end
def sepW (j cnt:Nat):List Tk:=if j=0∨cnt≤j then[]else[sgW [44]]
theorem set_next {g:List Nd→List Tk}{nx:List Nd→List Nd}{j cnt:Nat}{m:List Nd}(h:j<cnt):
 sepW j cnt++setW g nx (cnt-j) m=(if j=0 then[]else[sgW [44]])++g m++(sepW (j+1) cnt++setW g nx (cnt-(j+1)) (nx m)):=by
 obtain⟨d,hd⟩:∃d,cnt-j=d+1:=⟨cnt-j-1,by omega⟩
 have hd2:cnt-(j+1)=d:=by omega
 rw[hd,hd2,setW]
 have h1:sepW j cnt=if j=0 then[]else[sgW [44]]:=by unfold sepW;by_cases hj:j=0<;>simp[hj];omega
 rw[h1]
 by_cases hz:d=0
 · subst hz
   have h2:sepW (j+1) cnt=[]:=by unfold sepW;rw[if_pos (by omega)]
   rw[h2,if_pos rfl];simp[setW]
 · have h2:sepW (j+1) cnt=[sgW [44]]:=by unfold sepW;rw[if_neg (by omega)]
   rw[h2,if_neg hz];simp
section
variable {f B:Nat} {p:Option Addr} {c:Nat} {e:List Nd} (hpart:PartOk f B p c e) (w:World) (k:Nat) (v:Value) (L:List Tk) (r s:List Nd)
include hpart
theorem wlist_set (cnt:Nat)(h:WS w B p c e k v L)(hp:partsE (pastE f) cnt (e.drop k)=some r)(hl:L.length+20*(e.length-k)≤99990)(hc:cnt≤1000000):
 Calls Tryz.prog 68 #[.pointer (some ⟨B,0,none⟩),.string ⟨#[91]⟩,.int .i64 (cnt:Int),.func (.func 69) #[.pointer (some ⟨B,0,none⟩)] #[],.string ⟨#[93]⟩] w (Wrote B p c e k r L (sgW [91]::(setW (wdE f) (nxtE f) cnt (e.drop k)++[sgW [93]])) w):=by
 have eg:∀args w,(callFunc 69 args).run Tryz.prog w= .ok (.enter 69 args) w:=enters_of Tryz.func69 (by kernel_rfl) rfl
 have hkl:=h.le
 have HTot:∀D,D++(sepW cnt cnt++setW (wdE f) (nxtE f) (cnt-cnt) r)=L++[sgW [91]]++(sepW 0 cnt++setW (wdE f) (nxtE f) (cnt-0) (e.drop k))→D=L++sgW [91]::setW (wdE f) (nxtE f) cnt (e.drop k):=by
  intro D hD
  unfold sepW at hD
  rw[if_pos (Or.inr (Nat.le_refl _)),if_pos (Or.inl rfl),Nat.sub_self,Nat.sub_zero]at hD
  simpa[setW]using hD
 go_enter Tryz.func68,Tryz.ntmps68
 go_wp2_with fail
 refine(wsay1 w B p c e k v L ⟨#[91]⟩ h (by omega) (by unfold maxLen;decide)).mono ?_
 rintro en w1 ⟨rfl,⟨v1,h1⟩,k1⟩
 rw[show sayT ⟨#[91]⟩=sgW [91] by kernel_rfl]at h1
 go_wp2_with fail
 go_loopw [16] (fun i wr=>∃(j k':Nat) (D:List Tk),j≤cnt∧i= .int .i64 j∧Hid (Wr B p c e k' D w wr)∧Hid (partsE (pastE f) (cnt-j) (e.drop k')=some r)∧
  Hid (D++(sepW j cnt++setW (wdE f) (nxtE f) (cnt-j) (e.drop k'))=L++[sgW [91]]++(sepW 0 cnt++setW (wdE f) (nxtE f) (cnt-0) (e.drop k)))∧D.length+12*(e.length-k')≤L.length+1+12*(e.length-k)∧k≤k') (fun i _=>cnt-(intOf i).toNat)
 case atStart=>exact⟨0,k,L++[sgW [91]],Nat.zero_le _,rfl,⟨⟨v1,h1⟩,k1⟩,hp,rfl,by simp,Nat.le_refl _⟩
 case round=>
  obtain⟨j,k',D,hj,rfl,HW,HP,HD,hDl,hkk⟩:=hrel
  obtain⟨⟨u,hu⟩,hku⟩:=HW.out
  have hk'l:=hu.le
  by_cases hlt:j<cnt
  · have i1:(j:Int)<(cnt:Int):=by omega
    have hp1:=HP.out
    obtain⟨d,hd⟩:∃d,cnt-j=d+1:=⟨cnt-j-1,by omega⟩
    have hd2:cnt-(j+1)=d:=by omega
    rw[hd]at hp1
    obtain⟨s1,hs1,hs2⟩:=partsE_one hp1
    obtain⟨hsu1,hsu2⟩:=nd_suffix hs1
    have HD2:Hid (D++((if j=0 then[]else[sgW [44]])++wdE f (e.drop k')++(sepW (j+1) cnt++setW (wdE f) (nxtE f) (cnt-(j+1)) s1))=L++[sgW [91]]++(sepW 0 cnt++setW (wdE f) (nxtE f) (cnt-0) (e.drop k))):=by
     have:=HD.out
     rw[set_next hlt,nxt_of hs1]at this
     exact this
    have HQ2:Hid (partsE (pastE f) (cnt-(j+1)) (e.drop (e.length-s1.length))=some r):=by rw[hd2,hsu1];exact hs2
    clear hp1 hd hd2 HW HP HD hs2
    by_cases h0:j=0
    · have i0:¬(0:Int)<(j:Int):=by omega
      rw[if_pos h0,List.nil_append]at HD2
      have HI:=witem_ok hpart wr k' u D s1 hu hs1 (by omega)
      go_wp2_with fail
      refine HI.mono ?_
      rintro en w2 ⟨rfl,⟨⟨v2,h2⟩,k2⟩,l2⟩
      go_wp2
      go_roundw
      case rel=>exact⟨j+1,e.length-s1.length,D++wdE f (e.drop k'),by omega,by go_num,⟨⟨v2,h2⟩,hku.trans k2⟩,HQ2,by rw[hsu1,←HD2.out];show _=_;simp,by simp;omega,by omega⟩
      case measure=>simp[intOf];omega
    · have i0:(0:Int)<(j:Int):=by omega
      rw[if_neg h0]at HD2
      have HC:=wsay1 wr B p c e k' u D ⟨#[44]⟩ hu (by omega) (by unfold maxLen;decide)
      rw[show sayT ⟨#[44]⟩=sgW [44] by kernel_rfl]at HC
      go_wp2_with fail
      refine HC.mono ?_
      rintro en w2 ⟨rfl,⟨v2,h2⟩,k2⟩
      have HI:=witem_ok hpart w2 k' v2 _ s1 h2 hs1 (by simp;omega)
      go_wp2_with fail
      refine HI.mono ?_
      rintro en w3 ⟨rfl,⟨⟨v3,h3⟩,k3⟩,l3⟩
      go_wp2
      go_roundw
      case rel=>exact⟨j+1,e.length-s1.length,D++[sgW [44]]++wdE f (e.drop k'),by omega,by go_num,⟨⟨v3,h3⟩,(hku.trans k2).trans k3⟩,HQ2,by rw[hsu1,←HD2.out];show _=_;simp,by simp;omega,by omega⟩
      case measure=>simp[intOf];omega
  · obtain rfl:j=cnt:=by omega
    have i1:¬(j:Int)<(j:Int):=by omega
    have hr:e.drop k'=r:=by have:=HP.out;rw[Nat.sub_self]at this;exact partsE_end this
    have hrl:r.length=e.length-k':=by rw[←hr,List.length_drop]
    have HD3:D=L++sgW [91]::setW (wdE f) (nxtE f) j (e.drop k):=HTot D (by have:=HD.out;rw[hr]at this;exact this)
    have hkr:k'=e.length-r.length:=by omega
    have hDL:D.length=L.length+1+(setW (wdE f) (nxtE f) j (e.drop k)).length:=by rw[HD3];simp;omega
    clear HD HW HTot HP
    rw[hkr]at hu
    go_wp2_with fail
    refine(wsay1 wr B p c e _ u D ⟨#[93]⟩ hu (by omega) (by unfold maxLen;decide)).mono ?_
    rintro en w2 ⟨rfl,⟨v2,h2⟩,k2⟩
    rw[show sayT ⟨#[93]⟩=sgW [93] by kernel_rfl,HD3]at h2
    go_wp2
    go_end0
    exact⟨rfl,⟨⟨v2,by simpa using h2⟩,hku.trans k2⟩,by simp;omega⟩
end
theorem recW_zero (g:List Nd→List Tk)(nx:List Nd→List Nd)(m:List Nd):recW g nx 0 m=[]:=by cases m<;>rfl
theorem rec_next {g:List Nd→List Tk}{nx:List Nd→List Nd}{j cnt:Nat}{x:Nd}{m:List Nd}(h:j<cnt):
 sepW j cnt++recW g nx (cnt-j) (x::m)=(if j=0 then[]else[sgW [44]])++(nmW x.s.data.toList::sgW [58]::g m)++(sepW (j+1) cnt++recW g nx (cnt-(j+1)) (nx m)):=by
 obtain⟨d,hd⟩:∃d,cnt-j=d+1:=⟨cnt-j-1,by omega⟩
 have hd2:cnt-(j+1)=d:=by omega
 rw[hd,hd2,recW]
 have h1:sepW j cnt=if j=0 then[]else[sgW [44]]:=by unfold sepW;by_cases hj:j=0<;>simp[hj];omega
 rw[h1]
 by_cases hz:d=0
 · subst hz
   have h2:sepW (j+1) cnt=[]:=by unfold sepW;rw[if_pos (by omega)]
   rw[h2,if_pos rfl,recW_zero];simp
 · have h2:sepW (j+1) cnt=[sgW [44]]:=by unfold sepW;rw[if_neg (by omega)]
   rw[h2,if_neg hz];simp
theorem field_name {x:Nd}(h7:x.op=7)(h:ndOk x=true):nfault x.s.data.toList=0:=by
 unfold ndOk at h
 rw[h7]at h
 simp at h
 exact h.2
section
variable {f B:Nat} {p:Option Addr} {c:Nat} {e:List Nd} (hpart:PartOk f B p c e) (w:World) (k:Nat) (v:Value) (L:List Tk) (r s:List Nd)
include hpart
theorem wlist_rec (nm0:ByteArray)(cnt:Nat)(h:WS w B p c e k v L)(hp:recLoop (pastE f) cnt nm0 (e.drop k)=some r)(hl:L.length+20*(e.length-k)≤99990)(hc:cnt≤1000000):
 Calls Tryz.prog 68 #[.pointer (some ⟨B,0,none⟩),.string ⟨#[123]⟩,.int .i64 (cnt:Int),.func (.func 70) #[.pointer (some ⟨B,0,none⟩)] #[],.string ⟨#[125]⟩] w (Wrote B p c e k r L (sgW [123]::(recW (wdE f) (nxtE f) cnt (e.drop k)++[sgW [125]])) w):=by
 have eg:∀args w,(callFunc 70 args).run Tryz.prog w= .ok (.enter 70 args) w:=enters_of Tryz.func70 (by kernel_rfl) rfl
 have hkl:=h.le
 have HTot:∀D,D++(sepW cnt cnt++recW (wdE f) (nxtE f) (cnt-cnt) r)=L++[sgW [123]]++(sepW 0 cnt++recW (wdE f) (nxtE f) (cnt-0) (e.drop k))→D=L++sgW [123]::recW (wdE f) (nxtE f) cnt (e.drop k):=by
  intro D hD
  unfold sepW at hD
  rw[if_pos (Or.inr (Nat.le_refl _)),if_pos (Or.inl rfl),Nat.sub_self,Nat.sub_zero]at hD
  simpa[recW_zero]using hD
 go_enter Tryz.func68,Tryz.ntmps68
 go_wp2_with fail
 refine(wsay1 w B p c e k v L ⟨#[123]⟩ h (by omega) (by unfold maxLen;decide)).mono ?_
 rintro en w1 ⟨rfl,⟨v1,h1⟩,k1⟩
 rw[show sayT ⟨#[123]⟩=sgW [123] by kernel_rfl]at h1
 go_wp2_with fail
 go_loopw [16] (fun i wr=>∃(j k':Nat) (D:List Tk),j≤cnt∧i= .int .i64 j∧Hid (Wr B p c e k' D w wr)∧Hid (∃nm,recLoop (pastE f) (cnt-j) nm (e.drop k')=some r)∧
  Hid (D++(sepW j cnt++recW (wdE f) (nxtE f) (cnt-j) (e.drop k'))=L++[sgW [123]]++(sepW 0 cnt++recW (wdE f) (nxtE f) (cnt-0) (e.drop k)))∧D.length+12*(e.length-k')≤L.length+1+12*(e.length-k)∧k≤k') (fun i _=>cnt-(intOf i).toNat)
 case atStart=>exact⟨0,k,L++[sgW [123]],Nat.zero_le _,rfl,⟨⟨v1,h1⟩,k1⟩,⟨nm0,hp⟩,rfl,by simp,Nat.le_refl _⟩
 case round=>
  obtain⟨j,k',D,hj,rfl,HW,HP,HD,hDl,hkk⟩:=hrel
  obtain⟨⟨u,hu⟩,hku⟩:=HW.out
  have hk'l:=hu.le
  by_cases hlt:j<cnt
  · have i1:(j:Int)<(cnt:Int):=by omega
    obtain⟨nm,hp1⟩:=HP.out
    obtain⟨d,hd⟩:∃d,cnt-j=d+1:=⟨cnt-j-1,by omega⟩
    have hd2:cnt-(j+1)=d:=by omega
    rw[hd]at hp1
    obtain⟨x,m,s1,hv,h7,hok,_,hs1,hs2⟩:=recLoop_one hp1
    have hm:e.drop (k'+1)=m:=by
     have:=congrArg List.tail hv
     rwa [List.tail_drop,List.tail_cons]at this
    have hs1':pastE f (e.drop (k'+1))=some s1:=by rw[hm];exact hs1
    obtain⟨hsu1,hsu2⟩:=nd_suffix hs1'
    have hxm:x∈e:=List.mem_of_mem_drop (i:=k') (by rw[hv];exact List.mem_cons_self ..)
    have hwf:=h.nl.wfs x hxm
    have hnn:=field_name h7 hok
    have HD2:Hid (D++((if j=0 then[]else[sgW [44]])++(nmW x.s.data.toList::sgW [58]::wdE f m)++(sepW (j+1) cnt++recW (wdE f) (nxtE f) (cnt-(j+1)) s1))=L++[sgW [123]]++(sepW 0 cnt++recW (wdE f) (nxtE f) (cnt-0) (e.drop k))):=by
     have:=HD.out
     rw[hv,rec_next hlt,nxt_of hs1]at this
     exact this
    have HQ2:Hid (∃nm,recLoop (pastE f) (cnt-(j+1)) nm (e.drop (e.length-s1.length))=some r):=⟨x.s,by rw[hd2,hsu1];exact hs2⟩
    clear hp1 hd hd2 HW HP HD hs2 h7 hok
    by_cases h0:j=0
    · have i0:¬(0:Int)<(j:Int):=by omega
      rw[if_pos h0,List.nil_append]at HD2
      have HI:=wfield_ok hpart wr k' u D s1 x m hu hv hnn hwf.1 hs1 (by omega)
      go_wp2_with fail
      refine HI.mono ?_
      rintro en w2 ⟨rfl,⟨⟨v2,h2⟩,k2⟩,l2⟩
      rw[List.length_cons,List.length_cons]at l2
      go_wp2
      go_roundw
      case rel=>exact⟨j+1,e.length-s1.length,D++nmW x.s.data.toList::sgW [58]::wdE f m,by omega,by go_num,⟨⟨v2,h2⟩,hku.trans k2⟩,HQ2,by rw[hsu1,←HD2.out];show _=_;simp,by simp;omega,by omega⟩
      case measure=>simp[intOf];omega
    · have i0:(0:Int)<(j:Int):=by omega
      rw[if_neg h0]at HD2
      have HC:=wsay1 wr B p c e k' u D ⟨#[44]⟩ hu (by omega) (by unfold maxLen;decide)
      rw[show sayT ⟨#[44]⟩=sgW [44] by kernel_rfl]at HC
      go_wp2_with fail
      refine HC.mono ?_
      rintro en w2 ⟨rfl,⟨v2,h2⟩,k2⟩
      have HI:=wfield_ok hpart w2 k' v2 _ s1 x m h2 hv hnn hwf.1 hs1 (by simp;omega)
      go_wp2_with fail
      refine HI.mono ?_
      rintro en w3 ⟨rfl,⟨⟨v3,h3⟩,k3⟩,l3⟩
      rw[List.length_cons,List.length_cons]at l3
      go_wp2
      go_roundw
      case rel=>exact⟨j+1,e.length-s1.length,D++[sgW [44]]++nmW x.s.data.toList::sgW [58]::wdE f m,by omega,by go_num,⟨⟨v3,h3⟩,(hku.trans k2).trans k3⟩,HQ2,by rw[hsu1,←HD2.out];show _=_;simp,by simp;omega,by omega⟩
      case measure=>simp[intOf];omega
  · obtain rfl:j=cnt:=by omega
    have i1:¬(j:Int)<(j:Int):=by omega
    have hr:e.drop k'=r:=by obtain⟨nm,this⟩:=HP.out;rw[Nat.sub_self]at this;exact recLoop_none this
    have hrl:r.length=e.length-k':=by rw[←hr,List.length_drop]
    have HD3:D=L++sgW [123]::recW (wdE f) (nxtE f) j (e.drop k):=HTot D (by have:=HD.out;rw[hr]at this;exact this)
    have hkr:k'=e.length-r.length:=by omega
    have hDL:D.length=L.length+1+(recW (wdE f) (nxtE f) j (e.drop k)).length:=by rw[HD3];simp;omega
    clear HD HW HTot HP
    rw[hkr]at hu
    go_wp2_with fail
    refine(wsay1 wr B p c e _ u D ⟨#[125]⟩ hu (by omega) (by unfold maxLen;decide)).mono ?_
    rintro en w2 ⟨rfl,⟨v2,h2⟩,k2⟩
    rw[show sayT ⟨#[125]⟩=sgW [125] by kernel_rfl,HD3]at h2
    go_wp2
    go_end0
    exact⟨rfl,⟨⟨v2,by simpa using h2⟩,hku.trans k2⟩,by simp;omega⟩
end
theorem pre63 (l:List UInt8):Lib.hasPrefix l [63]=decide (l.head? =some 63):=by
 cases l with
 | nil=>rfl
 | cons a r=>
   by_cases h:a=63
   · subst h;simp[Lib.hasPrefix,List.isPrefixOf]
   · simp[Lib.hasPrefix,List.isPrefixOf,h,Ne.symm h]
theorem trim63 {l:List UInt8}(h:l.head? =some 63):Lib.trimPrefix l [63]=l.tail:=by
 cases l with
 | nil=>simp at h
 | cons a r=>
   simp at h
   subst h
   simp[Lib.trimPrefix,Lib.hasPrefix,List.isPrefixOf]
theorem size_new (w:World)(o:Obj):(w.alloc o).heap.size=w.heap.size+1:=by simp
section
variable {B:Nat} {p:Option Addr} {c:Nat} {e:List Nd} (w:World) (k:Nat) (v:Value) (L:List Tk)
theorem watom_bool (x:Nd)(h:WS w B p c e k v L)(hl:L.length+20*(e.length-k)≤99990)(hx:x.op=1)(hn:x.n=0∨x.n=1):
 Calls Tryz.prog 40 #[.pointer (some ⟨B,0,none⟩),ndW x] w fun en w'=>en= .returned (.tuple #[])∧Wr B p c e k (L++[nmW (if x.n=1 then wTrue else wFalse)]) w w':=by
 obtain⟨op,n,a,b⟩:=x
 have hb0:Below w.heap.size w (w.alloc (.cells #[.int .i64 op,.int .i64 n,.string a,.string b] 29)):=(Below.refl _ _).alloc (Nat.le_refl _) _
 have h0:=h.up hb0
 have hlt:=Nat.le_of_lt h.lt
 unfold ndW
 dsimp only at hx hn ⊢
 subst hx
 rcases hn with rfl | rfl
 · have HF:=fun w=>Any.strconv_FormatBool Tryz.lays121 false w
   have e1:(⟨(Lib.formatBool false).toArray⟩:ByteArray)=⟨#[102,97,108,115,101]⟩:=rfl
   simp only[e1]at HF
   have HS:=wsay1 _ B p c e k v L ⟨#[102,97,108,115,101]⟩ h0 (by omega) (by unfold maxLen;decide)
   rw[size_new]at HS
   rw[show sayT ⟨#[102,97,108,115,101]⟩=nmW wFalse by kernel_rfl]at HS
   rw[if_neg (by decide)]
   go_enter Tryz.func40,Tryz.ntmps40
   go_wp2_with fail
   refine(HF _).mono ?_
   rintro en w1 ⟨rfl,rfl⟩
   go_wp2_with fail
   refine HS.mono ?_
   rintro en w2 ⟨rfl,h2,k2⟩
   go_wp2
   go_end0
   exact⟨rfl,h2,(KW.of_below hb0 hlt).trans k2⟩
 · have HF:=fun w=>Any.strconv_FormatBool Tryz.lays121 true w
   have e1:(⟨(Lib.formatBool true).toArray⟩:ByteArray)=⟨#[116,114,117,101]⟩:=rfl
   simp only[e1]at HF
   have HS:=wsay1 _ B p c e k v L ⟨#[116,114,117,101]⟩ h0 (by omega) (by unfold maxLen;decide)
   rw[size_new]at HS
   rw[show sayT ⟨#[116,114,117,101]⟩=nmW wTrue by kernel_rfl]at HS
   rw[if_pos rfl]
   go_enter Tryz.func40,Tryz.ntmps40
   go_wp2_with fail
   refine(HF _).mono ?_
   rintro en w1 ⟨rfl,rfl⟩
   go_wp2_with fail
   refine HS.mono ?_
   rintro en w2 ⟨rfl,h2,k2⟩
   go_wp2
   go_end0
   exact⟨rfl,h2,(KW.of_below hb0 hlt).trans k2⟩
theorem watom_num (x:Nd)(h:WS w B p c e k v L)(hl:L.length+20*(e.length-k)≤99990)(hx:x.op=2)(hn: -9223372036854775808≤x.n∧x.n≤9223372036854775807):
 Calls Tryz.prog 40 #[.pointer (some ⟨B,0,none⟩),ndW x] w fun en w'=>en= .returned (.tuple #[])∧Wr B p c e k (L++if x.n<0 then[sgW [45],numW x.n.natAbs]else[numW x.n.natAbs]) w w':=by
 obtain⟨op,n,a,b⟩:=x
 have hb0:Below w.heap.size w (w.alloc (.cells #[.int .i64 op,.int .i64 n,.string a,.string b] 29)):=(Below.refl _ _).alloc (Nat.le_refl _) _
 have h0:=h.up hb0
 have hlt:=Nat.le_of_lt h.lt
 unfold ndW
 dsimp only at hx hn ⊢
 subst hx
 have HN:Calls Tryz.prog 66 #[.pointer (some ⟨B,0,none⟩),.int .i64 n] (w.alloc (.cells #[.int .i64 2,.int .i64 n,.string a,.string b] 29)) fun en w'=>en= .returned (.tuple #[])∧Wr B p c e k (L++if n<0 then[sgW [45],numW n.natAbs]else[numW n.natAbs]) (w.alloc (.cells #[.int .i64 2,.int .i64 n,.string a,.string b] 29)) w':=by
  by_cases hs:n<0
  · rw[if_pos hs];exact wnumber_less _ B p c e k v L n hn.1 hs h0 (by omega)
  · rw[if_neg hs];exact wnumber_more _ B p c e k v L n hn.2 hs h0 (by omega)
 generalize (if n<0 then[sgW [45],numW n.natAbs]else[numW n.natAbs])=W at *
 go_enter Tryz.func40,Tryz.ntmps40
 go_wp2_with fail
 refine HN.mono ?_
 rintro en w2 ⟨rfl,h2,k2⟩
 go_wp2
 go_end0
 exact⟨rfl,h2,(KW.of_below hb0 hlt).trans k2⟩
theorem watom_text (x:Nd)(h:WS w B p c e k v L)(hl:L.length+20*(e.length-k)≤99990)(hx:x.op=3):
 Calls Tryz.prog 40 #[.pointer (some ⟨B,0,none⟩),ndW x] w fun en w'=>en= .returned (.tuple #[])∧Wr B p c e k (L++[qtW x.s.data.toList]) w w':=by
 obtain⟨op,n,a,b⟩:=x
 have hb0:Below w.heap.size w (w.alloc (.cells #[.int .i64 op,.int .i64 n,.string a,.string b] 29)):=(Below.refl _ _).alloc (Nat.le_refl _) _
 have h0:=h.up hb0
 have hlt:=Nat.le_of_lt h.lt
 unfold ndW
 dsimp only at hx ⊢
 rw[←quo_word a]
 subst hx
 have HA:=wadd_any _ B p c e k v L 3 a h0 (by omega)
 go_enter Tryz.func40,Tryz.ntmps40
 go_wp2_with fail
 refine HA.mono ?_
 rintro en w2 ⟨rfl,h2,k2⟩
 go_wp2
 go_end0
 exact⟨rfl,h2,(KW.of_below hb0 hlt).trans k2⟩
theorem watom_ent (x:Nd)(h:WS w B p c e k v L)(hl:L.length+20*(e.length-k)≤99990)(hx:x.op=4)(hn:nfault x.s.data.toList=0)(hz:x.s.size≤maxLen):
 Calls Tryz.prog 40 #[.pointer (some ⟨B,0,none⟩),ndW x] w fun en w'=>en= .returned (.tuple #[])∧Wr B p c e k (L++[nmW x.s.data.toList,sgW [58,58],qtW x.t.data.toList]) w w':=by
 obtain⟨op,n,a,b⟩:=x
 have hb0:Below w.heap.size w (w.alloc (.cells #[.int .i64 op,.int .i64 n,.string a,.string b] 29)):=(Below.refl _ _).alloc (Nat.le_refl _) _
 have h0:=h.up hb0
 have hlt:=Nat.le_of_lt h.lt
 unfold ndW
 dsimp only at hx hn hz ⊢
 rw[←quo_word b,←say_name hn,show sgW [58,58]=sayT ⟨#[58,58]⟩ by kernel_rfl]
 subst hx
 have HA:=wsay2 _ B p c e k v L a ⟨#[58,58]⟩ h0 (by omega) hz (by unfold maxLen;decide)
 rw[size_new]at HA
 go_enter Tryz.func40,Tryz.ntmps40
 go_wp2_with fail
 refine HA.mono ?_
 rintro en w2 ⟨rfl,⟨v2,h2⟩,k2⟩
 have c3:w2.cell? ⟨w.heap.size,3,none⟩=some (.string b):=(k2.cellT (by decide) (by decide) (typed_new _ _ _) 3).trans (by simp[go_sem])
 go_wp2_with fail
 refine(wadd_any w2 B p c e k v2 _ 3 b h2 (by simp;omega)).mono ?_
 rintro en w3 ⟨rfl,⟨v3,h3⟩,k3⟩
 go_wp2
 go_end0
 exact⟨rfl,⟨v3,by simpa using h3⟩,((KW.of_below hb0 hlt).trans k2).trans k3⟩
theorem watom_var (x:Nd)(h:WS w B p c e k v L)(hl:L.length+20*(e.length-k)≤99990)(hx:x.op=8):
 Calls Tryz.prog 40 #[.pointer (some ⟨B,0,none⟩),ndW x] w fun en w'=>en= .returned (.tuple #[])∧Wr B p c e k (L++if x.s.data.toList.head? =some 63 then[mkT 4 x.s.data.toList.tail 0]else[nmW x.s.data.toList]) w w':=by
 obtain⟨op,n,a,b⟩:=x
 have hb0:Below w.heap.size w (w.alloc (.cells #[.int .i64 op,.int .i64 n,.string a,.string b] 29)):=(Below.refl _ _).alloc (Nat.le_refl _) _
 have h0:=h.up hb0
 have hlt:=Nat.le_of_lt h.lt
 unfold ndW
 dsimp only at hx ⊢
 subst hx
 have HN:Calls Tryz.prog 67 #[.pointer (some ⟨B,0,none⟩),.string a] (w.alloc (.cells #[.int .i64 8,.int .i64 n,.string a,.string b] 29)) fun en w'=>en= .returned (.tuple #[])∧Wr B p c e k (L++if a.data.toList.head? =some 63 then[mkT 4 a.data.toList.tail 0]else[nmW a.data.toList]) (w.alloc (.cells #[.int .i64 8,.int .i64 n,.string a,.string b] 29)) w':=by
  by_cases hs:a.data.toList.head? =some 63
  · rw[if_pos hs]
    have:=wnamed_slot _ B p c e k v L a h0 (by omega) (by rw[pre63];exact decide_eq_true hs)
    rw[trim63 hs]at this
    exact this
  · rw[if_neg hs]
    exact wnamed_name _ B p c e k v L a h0 (by omega) (by rw[pre63];exact decide_eq_false hs)
 generalize (if a.data.toList.head? =some 63 then[mkT 4 a.data.toList.tail 0]else[nmW a.data.toList])=W at *
 go_enter Tryz.func40,Tryz.ntmps40
 go_wp2_with fail
 refine HN.mono ?_
 rintro en w2 ⟨rfl,h2,k2⟩
 go_wp2
 go_end0
 exact⟨rfl,h2,(KW.of_below hb0 hlt).trans k2⟩
end
section
variable {f B:Nat} {p:Option Addr} {c:Nat} {e:List Nd} (hpart:PartOk f B p c e) (w:World) (k:Nat) (v:Value) (L:List Tk) (r s:List Nd)
include hpart
theorem watom_set (x:Nd)(h:WS w B p c e k v L)(hl:L.length+20*(e.length-k)≤99990)(hx:x.op=5)(h0n:0≤x.n)(h1n:x.n≤1000000)(hp:partsE (pastE f) x.n.toNat (e.drop k)=some r):
 Calls Tryz.prog 40 #[.pointer (some ⟨B,0,none⟩),ndW x] w (Wrote B p c e k r L (sgW [91]::(setW (wdE f) (nxtE f) x.n.toNat (e.drop k)++[sgW [93]])) w):=by
 obtain⟨op,n,a,b⟩:=x
 have hb0:Below w.heap.size w (w.alloc (.cells #[.int .i64 op,.int .i64 n,.string a,.string b] 29)):=(Below.refl _ _).alloc (Nat.le_refl _) _
 have h0:=h.up hb0
 have hlt:=Nat.le_of_lt h.lt
 unfold ndW
 dsimp only at hx h0n h1n hp ⊢
 subst hx
 obtain⟨m,rfl⟩:∃m:Nat,n=m:=⟨n.toNat,by omega⟩
 rw[Int.toNat_natCast]at hp ⊢
 have HA:=wlist_set hpart _ k v L r m h0 hp hl (by omega)
 go_enter Tryz.func40,Tryz.ntmps40
 go_wp2_with fail
 refine HA.mono ?_
 rintro en w2 ⟨rfl,⟨h2,k2⟩,l2⟩
 go_wp2
 go_end0
 exact⟨rfl,⟨h2,(KW.of_below hb0 hlt).trans k2⟩,l2⟩
theorem watom_rec (x:Nd)(h:WS w B p c e k v L)(hl:L.length+20*(e.length-k)≤99990)(hx:x.op=6)(h0n:0≤x.n)(h1n:x.n≤1000000)(nm0:ByteArray)(hp:recLoop (pastE f) x.n.toNat nm0 (e.drop k)=some r):
 Calls Tryz.prog 40 #[.pointer (some ⟨B,0,none⟩),ndW x] w (Wrote B p c e k r L (sgW [123]::(recW (wdE f) (nxtE f) x.n.toNat (e.drop k)++[sgW [125]])) w):=by
 obtain⟨op,n,a,b⟩:=x
 have hb0:Below w.heap.size w (w.alloc (.cells #[.int .i64 op,.int .i64 n,.string a,.string b] 29)):=(Below.refl _ _).alloc (Nat.le_refl _) _
 have h0:=h.up hb0
 have hlt:=Nat.le_of_lt h.lt
 unfold ndW
 dsimp only at hx h0n h1n hp ⊢
 subst hx
 obtain⟨m,rfl⟩:∃m:Nat,n=m:=⟨n.toNat,by omega⟩
 rw[Int.toNat_natCast]at hp ⊢
 have HA:=wlist_rec hpart _ k v L r nm0 m h0 hp hl (by omega)
 go_enter Tryz.func40,Tryz.ntmps40
 go_wp2_with fail
 refine HA.mono ?_
 rintro en w2 ⟨rfl,⟨h2,k2⟩,l2⟩
 go_wp2
 go_end0
 exact⟨rfl,⟨h2,(KW.of_below hb0 hlt).trans k2⟩,l2⟩
end
theorem size_setW (w:World)(a:Addr)(u:Value):(w.setCell a u).heap.size=w.heap.size:=by simp
def InsOk:Prop:=∀(w:World) (B:Nat) (v:Value) (L:List Tk) (i:Nat) (t:Tk),OTk w (B+1) v L→i<L.length→L.length≤1000000→B+1≤w.heap.size→
 Calls Tryz.prog 64 #[v,.int .i64 (i:Int),.slice (some ⟨w.heap.size,0,none⟩) 1 1] (w.alloc (.cells #[.int .i64 t.kind,.string t.s,.int .i64 t.at_] 43)) fun en w'=>∃v',en= .returned v'∧OTk w' (B+1) v' (L.take i++t::L.drop i)∧KW (B+1) w w'
section
variable {f B:Nat} {p:Option Addr} {c:Nat} {e:List Nd} (hpart:PartOk f B p c e) (w:World) (k:Nat) (v:Value) (L:List Tk) (r s:List Nd)
include hpart
theorem wsign_not (x:Nd)(h:WS w B p c e k v L)(hp:pastE f (e.drop k)=some r)(hl:L.length+20*(e.length-k)≤99990)(hx:x.op=9):
 Calls Tryz.prog 38 #[.pointer (some ⟨B,0,none⟩),ndW x] w (Wrote B p c e k r L (sgW [33]::partW (wdE f) 6 (e.drop k)) w):=by
 obtain⟨op,n,a,b⟩:=x
 have hb0:Below w.heap.size w (w.alloc (.cells #[.int .i64 op,.int .i64 n,.string a,.string b] 29)):=(Below.refl _ _).alloc (Nat.le_refl _) _
 have h0:=h.up hb0
 have hlt:=Nat.le_of_lt h.lt
 have hkl:=h.le
 unfold ndW
 dsimp only at hx ⊢
 subst hx
 have HS:=wsay1 _ B p c e k v L ⟨#[33]⟩ h0 (by omega) (by unfold maxLen;decide)
 rw[size_new,show sayT ⟨#[33]⟩=sgW [33] by kernel_rfl]at HS
 go_enter Tryz.func38,Tryz.ntmps38
 go_wp2_with fail
 refine HS.mono ?_
 rintro en w1 ⟨rfl,⟨v1,h1⟩,k1⟩
 have HP:=hpart w1 k v1 _ r 6 h1 hp (by simp;omega)
 go_wp2_with fail
 refine HP.mono ?_
 rintro en w2 ⟨rfl,⟨⟨v2,h2⟩,k2⟩,l0,l1⟩
 go_wp2
 refine bodyPost_ret (results_none rfl _ _ _) rfl ?_
 exact⟨rfl,⟨⟨v2,by simpa using h2⟩,((KW.of_below hb0 hlt).trans k1).trans k2⟩,by simp;omega⟩
theorem wsign_neg (hins:InsOk)(x:Nd)(h:WS w B p c e k v L)(hp:pastE f (e.drop k)=some r)(hl:L.length+20*(e.length-k)≤99990)(hx:x.op=10):
 Calls Tryz.prog 38 #[.pointer (some ⟨B,0,none⟩),ndW x] w (Wrote B p c e k r L (sgW [45]::negW (partW (wdE f) 6 (e.drop k))) w):=by
 obtain⟨op,n,a,b⟩:=x
 have hb0:Below w.heap.size w (w.alloc (.cells #[.int .i64 op,.int .i64 n,.string a,.string b] 29)):=(Below.refl _ _).alloc (Nat.le_refl _) _
 have h0:=h.up hb0
 have hlt:=Nat.le_of_lt h.lt
 have hkl:=h.le
 unfold ndW
 dsimp only at hx ⊢
 subst hx
 have HS:=wsay1 _ B p c e k v L ⟨#[45]⟩ h0 (by omega) (by unfold maxLen;decide)
 rw[size_new,show sayT ⟨#[45]⟩=sgW [45] by kernel_rfl]at HS
 go_enter Tryz.func38,Tryz.ntmps38
 go_wp2_with fail
 refine HS.mono ?_
 rintro en w1 ⟨rfl,⟨v1,h1⟩,k1⟩
 obtain⟨q1,c1,rfl,_⟩:=h1.own.slice
 have d1:=h1.c2
 have hL1:(L++[sgW [45]]).length=L.length+1:=by simp
 rw[hL1]at d1
 have HP:=hpart w1 k _ _ r 6 h1 hp (by simp;omega)
 go_wp2_with fail
 refine HP.mono ?_
 rintro en w2 ⟨rfl,⟨⟨v2,h2⟩,k2⟩,l0,l1⟩
 generalize hP:partW (wdE f) 6 (e.drop k)=P at *
 obtain⟨q2,c2,rfl,hk2,hc1,hc2,_⟩:=h2.own.slice
 have d2:=h2.c2
 have hL2:(L++[sgW [45]]++P).length=L.length+1+P.length:=by simp;omega
 rw[hL2]at d2
 obtain⟨t0,P',rfl⟩:∃t0 P',P=t0::P':=by
  cases P with
  | nil=>simp at l0
  | cons a b=>exact⟨a,b,rfl⟩
 obtain⟨bq,oq,hq2,hbq,e0,e1,e2⟩:=hk2.at (i:=L.length+1) (by simp)
 have hg:(L++[sgW [45]]++t0::P')[L.length+1]'(by simp)=t0:=by simp
 rw[hg]at e0 e1 e2
 subst hq2
 simp only[List.length_cons]at l0 l1
 have i1:((L.length:Int)+1)<(L.length:Int)+1+((t0::P').length:Int):=by simp;omega
 by_cases hnum:t0.kind=2
 · have HI:=hins w2 B _ _ (L.length+1) ⟨5,⟨#[40]⟩,0⟩ h2.own (by simp) (by rw[hL2,List.length_cons];omega) (Nat.succ_le_of_lt h2.lt)
   have e4:(L++[sgW [45]]++t0::P').take (L.length+1)=L++[sgW [45]]:=List.take_left' hL1
   have e5:(L++[sgW [45]]++t0::P').drop (L.length+1)=t0::P':=List.drop_left' hL1
   have e6:((L.length+1:Nat):Int)=(L.length:Int)+1:=rfl
   have e7:(t0::P').length=P'.length+1:=rfl
   rw[e4,e5,hL2,e6,e7]at HI
   have HN:Hid (negW (t0::P')=brk (t0::P')):=by
    show _=_
    unfold negW
    rw[if_pos (by show(t0.kind == 2)=true;simpa using hnum)]
   have hb2:=h2.blk
   generalize hT:t0.kind=kd at *
   subst hnum
   clear e1 e2 e4 e5 hg HP HS
   go_wp2_with fail
   refine HI.mono ?_
   rintro en w3 ⟨v3,rfl,ho3,hk3⟩
   obtain⟨q3,c3,rfl,_⟩:=ho3.slice
   have b3:w3.heap[B]? =_:=(hk3.bel.block B (Nat.lt_succ_self _)).trans hb2
   have f3:w3.frozen? ⟨B,2,none⟩=false:=by simp[World.frozen?, b3]
   have d3:w3.cell? ⟨B,2,none⟩=some (.slice (some ⟨bq,oq,none⟩) (L++[sgW [45]]++t0::P').length c2):=by simp[World.cell?, b3]
   have h3:=h2.setTs hk3 ho3
   have k3:=KW.set hk3.drop ⟨_,_,b3⟩ 2 (.slice q3 (L++[sgW [45]]++⟨5,⟨#[40]⟩,0⟩::t0::P').length c3)
   have hL3:(L++[sgW [45]]++⟨5,⟨#[40]⟩,0⟩::t0::P').length=L.length+P'.length+3:=by simp;omega
   rw[hL3]at h3 k3 ⊢
   have HS2:=fun w' v' (h':WS w' B p c e (e.length-r.length) v' (L++[sgW [45]]++⟨5,⟨#[40]⟩,0⟩::t0::P'))=>wsay1 w' B p c e _ v' _ ⟨#[41]⟩ h' (by rw[hL3];omega) (by unfold maxLen;decide)
   have HS3:=HS2 _ _ h3
   rw[size_setW]at HS3
   clear HS2 HI
   go_wp2_with fail
   refine HS3.mono ?_
   rintro en w4 ⟨rfl,⟨v4,h4⟩,k4⟩
   rw[sayR]at h4
   go_wp2
   go_end0
   rw[HN.out]
   refine⟨rfl,⟨⟨v4,?_⟩,((((KW.of_below hb0 hlt).trans k1).trans k2).trans k3).trans k4⟩,by simp[brk];omega⟩
   have e9:L++[sgW [45]]++⟨5,⟨#[40]⟩,0⟩::t0::P'++[sgW [41]]=L++sgW [45]::brk (t0::P'):=by simp[brk];rfl
   rw[←e9]
   exact h4
 · have HN:Hid (negW (t0::P')=t0::P'):=by
    show _=_
    unfold negW
    rw[if_neg (by show ¬(t0.kind == 2)=true;simpa using hnum)]
   have hk2':(t0.kind == 2)=false:=by simpa using hnum
   clear HP HS hnum
   go_wp2_with fail
   go_end0
   rw[HN.out]
   obtain⟨v9,h9⟩:∃v9,WS w2 B p c e (e.length-r.length) v9 (L++[sgW [45]]++t0::P'):=⟨_,h2⟩
   rw[List.append_assoc]at h9
   exact⟨rfl,⟨⟨v9,h9⟩,((KW.of_below hb0 hlt).trans k1).trans k2⟩,by simp;omega⟩
end
def Bared (B:Nat)(p:Option Addr)(c:Nat)(e:List Nd)(k:Nat)(r:List Nd)(L W:List Tk)(w:World)(en:Ending)(w':World):Prop:=
 en= .returned (.tuple #[])∧Wr B p c e (e.length-r.length) (L++W) w w'∧W.length+12*r.length≤12*(e.length-(k+1))+8
section
variable {B:Nat} {p:Option Addr} {c:Nat} {e:List Nd} (w:World) (k:Nat) (v:Value) (L W:List Tk) (r:List Nd) (x:Nd)
theorem bare_rel (h:WS w B p c e k v L)(hx:e[k]? =some x)(hlv:lvO x.op=3)
 (HX:∀w1 v1,WS w1 B p c e (k+1) v1 L→Calls Tryz.prog 36 #[.pointer (some ⟨B,0,none⟩),ndW x] w1 (Wrote B p c e (k+1) r L W w1)):
 Calls Tryz.prog 19 #[.pointer (some ⟨B,0,none⟩)] w (Bared B p c e k r L W w):=by
 have HT:=wtake_any w B p c e k v L x h hx
 have HF:=fun w=>formOf_any x.op w
 rw[hlv]at HF
 have hlt:=Nat.le_of_lt h.lt
 unfold ndW at HX
 go_enter Tryz.func19,Tryz.ntmps19
 go_wp2_with fail
 refine HT.mono ?_
 rintro en w1 ⟨rfl,⟨v1,h1⟩,k1⟩
 have hb0:Below w1.heap.size w1 (w1.alloc (.cells #[.int .i64 x.op,.int .i64 x.n,.string x.s,.string x.t] 29)):=(Below.refl _ _).alloc (Nat.le_refl _) _
 have h1':=h1.up hb0
 have hlt1:=Nat.le_of_lt h1.lt
 go_wp2_with fail
 refine(HF _).mono ?_
 rintro en w2 ⟨rfl,rfl⟩
 go_wp2_with fail
 refine(HX _ v1 h1').mono ?_
 rintro en w3 ⟨rfl,⟨h3,k3⟩,l3⟩
 go_wp2
 go_end0
 exact⟨rfl,⟨h3,(k1.trans (KW.of_below hb0 hlt1)).trans k3⟩,l3⟩
theorem bare_sum (h:WS w B p c e k v L)(hx:e[k]? =some x)(hlv:lvO x.op=4)
 (HX:∀w1 v1,WS w1 B p c e (k+1) v1 L→Calls Tryz.prog 37 #[.pointer (some ⟨B,0,none⟩),ndW x] w1 (Wrote B p c e (k+1) r L W w1)):
 Calls Tryz.prog 19 #[.pointer (some ⟨B,0,none⟩)] w (Bared B p c e k r L W w):=by
 have HT:=wtake_any w B p c e k v L x h hx
 have HF:=fun w=>formOf_any x.op w
 rw[hlv]at HF
 have hlt:=Nat.le_of_lt h.lt
 unfold ndW at HX
 go_enter Tryz.func19,Tryz.ntmps19
 go_wp2_with fail
 refine HT.mono ?_
 rintro en w1 ⟨rfl,⟨v1,h1⟩,k1⟩
 have hb0:Below w1.heap.size w1 (w1.alloc (.cells #[.int .i64 x.op,.int .i64 x.n,.string x.s,.string x.t] 29)):=(Below.refl _ _).alloc (Nat.le_refl _) _
 have h1':=h1.up hb0
 have hlt1:=Nat.le_of_lt h1.lt
 go_wp2_with fail
 refine(HF _).mono ?_
 rintro en w2 ⟨rfl,rfl⟩
 go_wp2_with fail
 refine(HX _ v1 h1').mono ?_
 rintro en w3 ⟨rfl,⟨h3,k3⟩,l3⟩
 go_wp2
 go_end0
 exact⟨rfl,⟨h3,(k1.trans (KW.of_below hb0 hlt1)).trans k3⟩,l3⟩
theorem bare_sign (h:WS w B p c e k v L)(hx:e[k]? =some x)(hlv:lvO x.op=6)
 (HX:∀w1 v1,WS w1 B p c e (k+1) v1 L→Calls Tryz.prog 38 #[.pointer (some ⟨B,0,none⟩),ndW x] w1 (Wrote B p c e (k+1) r L W w1)):
 Calls Tryz.prog 19 #[.pointer (some ⟨B,0,none⟩)] w (Bared B p c e k r L W w):=by
 have HT:=wtake_any w B p c e k v L x h hx
 have HF:=fun w=>formOf_any x.op w
 rw[hlv]at HF
 have hlt:=Nat.le_of_lt h.lt
 unfold ndW at HX
 go_enter Tryz.func19,Tryz.ntmps19
 go_wp2_with fail
 refine HT.mono ?_
 rintro en w1 ⟨rfl,⟨v1,h1⟩,k1⟩
 have hb0:Below w1.heap.size w1 (w1.alloc (.cells #[.int .i64 x.op,.int .i64 x.n,.string x.s,.string x.t] 29)):=(Below.refl _ _).alloc (Nat.le_refl _) _
 have h1':=h1.up hb0
 have hlt1:=Nat.le_of_lt h1.lt
 go_wp2_with fail
 refine(HF _).mono ?_
 rintro en w2 ⟨rfl,rfl⟩
 go_wp2_with fail
 refine(HX _ v1 h1').mono ?_
 rintro en w3 ⟨rfl,⟨h3,k3⟩,l3⟩
 go_wp2
 go_end0
 exact⟨rfl,⟨h3,(k1.trans (KW.of_below hb0 hlt1)).trans k3⟩,l3⟩
theorem bare_post (h:WS w B p c e k v L)(hx:e[k]? =some x)(hlv:lvO x.op=7)
 (HX:∀w1 v1,WS w1 B p c e (k+1) v1 L→Calls Tryz.prog 39 #[.pointer (some ⟨B,0,none⟩),ndW x] w1 (Wrote B p c e (k+1) r L W w1)):
 Calls Tryz.prog 19 #[.pointer (some ⟨B,0,none⟩)] w (Bared B p c e k r L W w):=by
 have HT:=wtake_any w B p c e k v L x h hx
 have HF:=fun w=>formOf_any x.op w
 rw[hlv]at HF
 have hlt:=Nat.le_of_lt h.lt
 unfold ndW at HX
 go_enter Tryz.func19,Tryz.ntmps19
 go_wp2_with fail
 refine HT.mono ?_
 rintro en w1 ⟨rfl,⟨v1,h1⟩,k1⟩
 have hb0:Below w1.heap.size w1 (w1.alloc (.cells #[.int .i64 x.op,.int .i64 x.n,.string x.s,.string x.t] 29)):=(Below.refl _ _).alloc (Nat.le_refl _) _
 have h1':=h1.up hb0
 have hlt1:=Nat.le_of_lt h1.lt
 go_wp2_with fail
 refine(HF _).mono ?_
 rintro en w2 ⟨rfl,rfl⟩
 go_wp2_with fail
 refine(HX _ v1 h1').mono ?_
 rintro en w3 ⟨rfl,⟨h3,k3⟩,l3⟩
 go_wp2
 go_end0
 exact⟨rfl,⟨h3,(k1.trans (KW.of_below hb0 hlt1)).trans k3⟩,l3⟩
theorem bare_atom (h:WS w B p c e k v L)(hx:e[k]? =some x)(hlv:lvO x.op=8)
 (HX:∀w1 v1,WS w1 B p c e (k+1) v1 L→Calls Tryz.prog 40 #[.pointer (some ⟨B,0,none⟩),ndW x] w1 (Wrote B p c e (k+1) r L W w1)):
 Calls Tryz.prog 19 #[.pointer (some ⟨B,0,none⟩)] w (Bared B p c e k r L W w):=by
 have HT:=wtake_any w B p c e k v L x h hx
 have HF:=fun w=>formOf_any x.op w
 rw[hlv]at HF
 have hlt:=Nat.le_of_lt h.lt
 unfold ndW at HX
 go_enter Tryz.func19,Tryz.ntmps19
 go_wp2_with fail
 refine HT.mono ?_
 rintro en w1 ⟨rfl,⟨v1,h1⟩,k1⟩
 have hb0:Below w1.heap.size w1 (w1.alloc (.cells #[.int .i64 x.op,.int .i64 x.n,.string x.s,.string x.t] 29)):=(Below.refl _ _).alloc (Nat.le_refl _) _
 have h1':=h1.up hb0
 have hlt1:=Nat.le_of_lt h1.lt
 go_wp2_with fail
 refine(HF _).mono ?_
 rintro en w2 ⟨rfl,rfl⟩
 go_wp2_with fail
 refine(HX _ v1 h1').mono ?_
 rintro en w3 ⟨rfl,⟨h3,k3⟩,l3⟩
 go_wp2
 go_end0
 exact⟨rfl,⟨h3,(k1.trans (KW.of_below hb0 hlt1)).trans k3⟩,l3⟩
theorem bare_either (h:WS w B p c e k v L)(hx:e[k]? =some x)(hlv:lvO x.op=1)
 (HX:∀w1 v1,WS w1 B p c e (k+1) v1 L→Calls Tryz.prog 35 #[.pointer (some ⟨B,0,none⟩),.int .i64 ((1:Nat):Int),.string ⟨#[124,124]⟩,.int .i64 ((2:Nat):Int)] w1 (Wrote B p c e (k+1) r L W w1)):
 Calls Tryz.prog 19 #[.pointer (some ⟨B,0,none⟩)] w (Bared B p c e k r L W w):=by
 have HT:=wtake_any w B p c e k v L x h hx
 have HF:=fun w=>formOf_any x.op w
 rw[hlv]at HF
 have hlt:=Nat.le_of_lt h.lt
 go_enter Tryz.func19,Tryz.ntmps19
 go_wp2_with fail
 refine HT.mono ?_
 rintro en w1 ⟨rfl,⟨v1,h1⟩,k1⟩
 have hb0:Below w1.heap.size w1 (w1.alloc (.cells #[.int .i64 x.op,.int .i64 x.n,.string x.s,.string x.t] 29)):=(Below.refl _ _).alloc (Nat.le_refl _) _
 have h1':=h1.up hb0
 have hlt1:=Nat.le_of_lt h1.lt
 go_wp2_with fail
 refine(HF _).mono ?_
 rintro en w2 ⟨rfl,rfl⟩
 go_wp2_with fail
 refine(HX _ v1 h1').mono ?_
 rintro en w3 ⟨rfl,⟨h3,k3⟩,l3⟩
 go_wp2
 go_end0
 exact⟨rfl,⟨h3,(k1.trans (KW.of_below hb0 hlt1)).trans k3⟩,l3⟩
theorem bare_both (h:WS w B p c e k v L)(hx:e[k]? =some x)(hlv:lvO x.op=2)
 (HX:∀w1 v1,WS w1 B p c e (k+1) v1 L→Calls Tryz.prog 35 #[.pointer (some ⟨B,0,none⟩),.int .i64 ((2:Nat):Int),.string ⟨#[38,38]⟩,.int .i64 ((3:Nat):Int)] w1 (Wrote B p c e (k+1) r L W w1)):
 Calls Tryz.prog 19 #[.pointer (some ⟨B,0,none⟩)] w (Bared B p c e k r L W w):=by
 have HT:=wtake_any w B p c e k v L x h hx
 have HF:=fun w=>formOf_any x.op w
 rw[hlv]at HF
 have hlt:=Nat.le_of_lt h.lt
 go_enter Tryz.func19,Tryz.ntmps19
 go_wp2_with fail
 refine HT.mono ?_
 rintro en w1 ⟨rfl,⟨v1,h1⟩,k1⟩
 have hb0:Below w1.heap.size w1 (w1.alloc (.cells #[.int .i64 x.op,.int .i64 x.n,.string x.s,.string x.t] 29)):=(Below.refl _ _).alloc (Nat.le_refl _) _
 have h1':=h1.up hb0
 have hlt1:=Nat.le_of_lt h1.lt
 go_wp2_with fail
 refine(HF _).mono ?_
 rintro en w2 ⟨rfl,rfl⟩
 go_wp2_with fail
 refine(HX _ v1 h1').mono ?_
 rintro en w3 ⟨rfl,⟨h3,k3⟩,l3⟩
 go_wp2
 go_end0
 exact⟨rfl,⟨h3,(k1.trans (KW.of_below hb0 hlt1)).trans k3⟩,l3⟩
theorem bare_prod (h:WS w B p c e k v L)(hx:e[k]? =some x)(hlv:lvO x.op=5)
 (HX:∀w1 v1,WS w1 B p c e (k+1) v1 L→Calls Tryz.prog 35 #[.pointer (some ⟨B,0,none⟩),.int .i64 ((5:Nat):Int),.string ⟨#[42]⟩,.int .i64 ((6:Nat):Int)] w1 (Wrote B p c e (k+1) r L W w1)):
 Calls Tryz.prog 19 #[.pointer (some ⟨B,0,none⟩)] w (Bared B p c e k r L W w):=by
 have HT:=wtake_any w B p c e k v L x h hx
 have HF:=fun w=>formOf_any x.op w
 rw[hlv]at HF
 have hlt:=Nat.le_of_lt h.lt
 go_enter Tryz.func19,Tryz.ntmps19
 go_wp2_with fail
 refine HT.mono ?_
 rintro en w1 ⟨rfl,⟨v1,h1⟩,k1⟩
 have hb0:Below w1.heap.size w1 (w1.alloc (.cells #[.int .i64 x.op,.int .i64 x.n,.string x.s,.string x.t] 29)):=(Below.refl _ _).alloc (Nat.le_refl _) _
 have h1':=h1.up hb0
 have hlt1:=Nat.le_of_lt h1.lt
 go_wp2_with fail
 refine(HF _).mono ?_
 rintro en w2 ⟨rfl,rfl⟩
 go_wp2_with fail
 refine(HX _ v1 h1').mono ?_
 rintro en w3 ⟨rfl,⟨h3,k3⟩,l3⟩
 go_wp2
 go_end0
 exact⟨rfl,⟨h3,(k1.trans (KW.of_below hb0 hlt1)).trans k3⟩,l3⟩
theorem bare_whole {f:Nat}(hpart:PartOk f B p c e)(r1 r2 r3:List Nd)(h:WS w B p c e k v L)(hx:e[k]? =some x)(hlv:lvO x.op=0)
 (hp1:pastE f (e.drop (k+1))=some r1) (hp2:pastE f r1=some r2) (hp3:pastE f r2=some r3) (hl:L.length+20*(e.length-(k+1))≤99990):
 Calls Tryz.prog 19 #[.pointer (some ⟨B,0,none⟩)] w (Bared B p c e k r3 L (nmW wIf::(wdE f (e.drop (k+1))++nmW wThen::(wdE f r1++nmW wElse::wdE f r2))) w):=by
 have HT:=wtake_any w B p c e k v L x h hx
 have HF:=fun w=>formOf_any x.op w
 rw[hlv]at HF
 have hlt:=Nat.le_of_lt h.lt
 obtain⟨s1,s2⟩:=nd_suffix hp1
 have hp2':pastE f (e.drop (e.length-r1.length))=some r2:=by rw[s1];exact hp2
 obtain⟨s3,s4⟩:=nd_suffix hp2'
 have hp3':pastE f (e.drop (e.length-r2.length))=some r3:=by rw[s3];exact hp3
 have HA:Hid (L++nmW wIf::(wdE f (e.drop (k+1))++nmW wThen::(wdE f r1++nmW wElse::wdE f r2))=L++[sayT ⟨#[105,102]⟩]++wdE f (e.drop (k+1))++[sayT ⟨#[116,104,101,110]⟩]++wdE f r1++[sayT ⟨#[101,108,115,101]⟩]++wdE f r2):=by
  show _=_
  rw[show sayT ⟨#[105,102]⟩=nmW wIf by kernel_rfl,show sayT ⟨#[116,104,101,110]⟩=nmW wThen by kernel_rfl,show sayT ⟨#[101,108,115,101]⟩=nmW wElse by kernel_rfl]
  simp
 go_enter Tryz.func19,Tryz.ntmps19
 go_wp2_with fail
 refine HT.mono ?_
 rintro en w1 ⟨rfl,⟨v1,h1⟩,k1⟩
 have hb0:Below w1.heap.size w1 (w1.alloc (.cells #[.int .i64 x.op,.int .i64 x.n,.string x.s,.string x.t] 29)):=(Below.refl _ _).alloc (Nat.le_refl _) _
 have h1':=h1.up hb0
 have hlt1:=Nat.le_of_lt h1.lt
 have HS:=wsay1 _ B p c e _ v1 L ⟨#[105,102]⟩ h1' (by omega) (by unfold maxLen;decide)
 rw[size_new]at HS
 go_wp2_with fail
 refine(HF _).mono ?_
 rintro en w2 ⟨rfl,rfl⟩
 go_wp2_with fail
 refine HS.mono ?_
 rintro en w3 ⟨rfl,⟨v3,h3⟩,k3⟩
 have H4:=hpart w3 (k+1) v3 _ r1 0 h3 hp1 (by simp;omega)
 rw[part0]at H4
 go_wp2_with fail
 refine H4.mono ?_
 rintro en w4 ⟨rfl,⟨⟨v4,h4⟩,k4⟩,l0,l1⟩
 go_wp2_with fail
 refine(wsay1 w4 B p c e _ v4 _ ⟨#[116,104,101,110]⟩ h4 (by simp;omega) (by unfold maxLen;decide)).mono ?_
 rintro en w5 ⟨rfl,⟨v5,h5⟩,k5⟩
 have H6:=hpart w5 _ v5 _ r2 0 h5 hp2' (by simp;omega)
 rw[part0,s1]at H6
 go_wp2_with fail
 refine H6.mono ?_
 rintro en w6 ⟨rfl,⟨⟨v6,h6⟩,k6⟩,m0,m1⟩
 go_wp2_with fail
 refine(wsay1 w6 B p c e _ v6 _ ⟨#[101,108,115,101]⟩ h6 (by simp;omega) (by unfold maxLen;decide)).mono ?_
 rintro en w7 ⟨rfl,⟨v7,h7⟩,k7⟩
 have H8:=hpart w7 _ v7 _ r3 0 h7 hp3' (by simp;omega)
 rw[part0,s3]at H8
 go_wp2_with fail
 refine H8.mono ?_
 rintro en w8 ⟨rfl,⟨⟨v8,h8⟩,k8⟩,n0,n1⟩
 go_wp2
 go_end0
 exact⟨rfl,⟨⟨v8,by rw[HA.out];exact h8⟩,((((((k1.trans (KW.of_below hb0 hlt1)).trans k3).trans k4).trans k5).trans k6).trans k7).trans k8⟩,by simp;omega⟩
end
set_option linter.unusedSimpArgs false
theorem lv0 {op:Int}(h:lvO op=0):op=13:=by
 unfold lvO at h
 repeat' split at h
 all_goals omega
theorem lv1 {op:Int}(h:lvO op=1):op=12:=by
 unfold lvO at h
 repeat' split at h
 all_goals omega
theorem lv2 {op:Int}(h:lvO op=2):op=11:=by
 unfold lvO at h
 repeat' split at h
 all_goals omega
theorem lv4 {op:Int}(h:lvO op=4):op=17∨op=18:=by
 unfold lvO at h
 repeat' split at h
 all_goals omega
theorem lv5 {op:Int}(h:lvO op=5):op=19:=by
 unfold lvO at h
 repeat' split at h
 all_goals omega
theorem lv6 {op:Int}(h:lvO op=6):op=9∨op=10:=by
 unfold lvO at h
 repeat' split at h
 all_goals omega
theorem between_wrote {f B:Nat}{p:Option Addr}{c:Nat}{e:List Nd}(hpart:PartOk f B p c e)(w:World)(k:Nat)(v:Value)(L:List Tk)(m r s:List Nd)(fm gm:Nat)(t:ByteArray)(u:Tk)(h:WS w B p c e k v L)
 (hm:e.drop k=m) (hp:pastE f m=some r) (hq:pastE f r=some s) (hl:L.length+20*(e.length-k)≤99990) (ht:t.size≤maxLen) (hu:sayT t=u):
 Calls Tryz.prog 35 #[.pointer (some ⟨B,0,none⟩),.int .i64 (fm:Int),.string t,.int .i64 (gm:Int)] w (Wrote B p c e k s L (partW (wdE f) fm m++u::partW (wdE f) gm r) w):=by
 subst hm hu
 refine(between_ok hpart w k v L r s fm gm t h hp hq hl ht).mono ?_
 rintro en w' ⟨rfl,h1,l1⟩
 exact⟨rfl,h1,by omega⟩
theorem partsE_count {f:Nat}:∀ {n:Nat} {m r:List Nd},partsE (pastE f) n m=some r→n+r.length≤m.length
 | 0,m,r,h=>by rw[partsE_end h];omega
 | n+1,m,r,h=>by
   obtain⟨s,h1,h2⟩:=partsE_one h
   have:=partsE_count h2
   have:=(pastE_shorter h1).1
   omega
theorem recLoop_count {f:Nat}:∀ {n:Nat} {nm:ByteArray} {m r:List Nd},recLoop (pastE f) n nm m=some r→n+r.length≤m.length
 | 0,_,m,r,h=>by rw[recLoop_none h];omega
 | n+1,_,m,r,h=>by
   obtain⟨x,m',s,e0,_,_,_,h1,h2⟩:=recLoop_one h
   have:=recLoop_count h2
   have:=(pastE_shorter h1).1
   rw[e0,List.length_cons]
   omega
theorem bare_ok {f B:Nat}{p:Option Addr}{c:Nat}{e:List Nd}(hins:InsOk)(hN:∀x∈e,n64 x)(hpart:PartOk f B p c e):BareOk (f+1) B p c e:=by
 intro w k v L r h hp hl
 obtain⟨g',x,m,e1,hv,h7,hx,hr⟩:=pastE_cons hp
 obtain rfl:f=g':=by omega
 have hxk:e[k]? =some x:=by
  have:=congrArg List.head? hv
  rwa [List.head?_drop,List.head?_cons]at this
 have hm:e.drop (k+1)=m:=by
  have:=congrArg List.tail hv
  rwa [List.tail_drop,List.tail_cons]at this
 have hk:k<e.length:=(List.getElem?_eq_some_iff.1 hxk).1
 have hmem:x∈e:=List.mem_of_getElem? hxk
 have hwf:=h.nl.wfs x hmem
 have hn64:=hN x hmem
 have hr1:=ex_rng hx
 have hl':L.length+20*(e.length-(k+1))≤99990:=by omega
 have hle:=h.len
 rw[hv]
 suffices HB:Calls Tryz.prog 19 #[.pointer (some ⟨B,0,none⟩)] w (Bared B p c e k r L (wdE (f+1) (x::m)) w)∧1≤(wdE (f+1) (x::m)).length by
  refine HB.1.mono ?_
  rintro en w' ⟨rfl,h1,l1⟩
  exact⟨rfl,h1,HB.2,by omega⟩
 clear hl hp hv
 have one:1≤(prt x).toNat→x.op≠6→∃s1,pastE f m=some s1∧partsE (pastE f) ((prt x).toNat-1) s1=some r:=by
  intro h1 h6
  rcases hr with⟨h6',_⟩ | ⟨_,hp⟩
  · exact absurd h6' h6
  · cases hk:(prt x).toNat with
    | zero=>omega
    | succ d=>
      rw[hk]at hp
      obtain⟨s1,p1,hp⟩:=partsE_one hp
      exact⟨s1,p1,hp⟩
 have just1:(prt x).toNat=1→x.op≠6→pastE f m=some r:=by
  intro h1 h6
  obtain⟨s1,p1,hp⟩:=one (by omega) h6
  rw[h1]at hp
  rw[p1,partsE_end hp]
 have just2:(prt x).toNat=2→x.op≠6→∃s1,pastE f m=some s1∧pastE f s1=some r:=by
  intro h1 h6
  obtain⟨s1,p1,hp⟩:=one (by omega) h6
  rw[h1]at hp
  obtain⟨s2,p2,hp⟩:=partsE_one hp
  exact⟨s1,p1,by rw[p2,partsE_end hp]⟩
 rw[wdE]
 by_cases c13:x.op=13
 · rw[if_pos c13]
   have e3:(prt x).toNat=3:=by unfold prt;rw[c13];rfl
   obtain⟨s1,p1,hp1⟩:=one (by omega) (by omega)
   rw[e3]at hp1
   obtain⟨s2,p2,hp2⟩:=partsE_one hp1
   obtain⟨s3,p3,hp3⟩:=partsE_one hp2
   have:=partsE_end hp3
   subst this
   have hlv:lvO x.op=0:=by rw[c13];rfl
   have HB:=bare_whole w k v L x hpart s1 s2 s3 h hxk hlv (by rw[hm];exact p1) p2 p3 hl'
   rw[hm]at HB
   rw[nxt_of p1,nxt_of p2]
   exact⟨HB,by(try simp only[List.length_append,List.length_cons]);omega⟩
 rw[if_neg c13]
 by_cases cl:lvO x.op=1∨lvO x.op=2∨lvO x.op=4∨lvO x.op=5
 · rw[if_pos cl]
   have ho:11≤x.op∧x.op≤19:=by
    unfold lvO at cl
    repeat' split at cl
    all_goals omega
   have e3:(prt x).toNat=2:=by
    unfold prt
    rw[if_neg (by omega),if_neg (by omega),if_neg (by omega),if_neg (by omega),if_pos (by omega)];rfl
   obtain⟨s1,p1,p2⟩:=just2 e3 (by omega)
   rw[nxt_of p1]
   refine⟨?_,by(try simp only[List.length_append,List.length_cons]);omega⟩
   rcases cl with c1 | c1 | c1 | c1
   · have o:=lv1 c1
     rw[c1]
     exact bare_either w k v L _ r x h hxk c1 (fun w1 v1 h1=>between_wrote hpart w1 (k+1) v1 L m s1 r 1 2 ⟨#[124,124]⟩ _ h1 hm p1 p2 hl' (by unfold maxLen;decide) (by rw[o];kernel_rfl))
   · have o:=lv2 c1
     rw[c1]
     exact bare_both w k v L _ r x h hxk c1 (fun w1 v1 h1=>between_wrote hpart w1 (k+1) v1 L m s1 r 2 3 ⟨#[38,38]⟩ _ h1 hm p1 p2 hl' (by unfold maxLen;decide) (by rw[o];kernel_rfl))
   · have o:=lv4 c1
     rw[c1]
     refine bare_sum w k v L _ r x h hxk c1 (fun w1 v1 h1=>?_)
     have:=wsum_ok hpart w1 (k+1) v1 L s1 r x h1 (by rw[hm];exact p1) p2 hl' o
     rw[hm]at this
     exact this
   · have o:=lv5 c1
     rw[c1]
     exact bare_prod w k v L _ r x h hxk c1 (fun w1 v1 h1=>between_wrote hpart w1 (k+1) v1 L m s1 r 5 6 ⟨#[42]⟩ _ h1 hm p1 p2 hl' (by unfold maxLen;decide) (by rw[o];kernel_rfl))
 rw[if_neg cl]
 by_cases c3:lvO x.op=3
 · rw[if_pos c3]
   have ho:14≤x.op∧x.op≤16∨x.op=20∨x.op=21∨x.op=23∨x.op=24:=by
    unfold lvO at c3
    repeat' split at c3
    all_goals omega
   by_cases ctwo:14≤x.op∧x.op≤16∨x.op=20
   · have e3:(prt x).toNat=2:=by
      unfold prt
      rw[if_neg (by omega),if_neg (by omega),if_neg (by omega),if_neg (by omega),if_pos (by omega)];rfl
     obtain⟨s1,p1,p2⟩:=just2 e3 (by omega)
     rw[if_neg (by omega),if_neg (by omega),if_neg (by omega),nxt_of p1]
     refine⟨bare_rel w k v L _ r x h hxk c3 (fun w1 v1 h1=>?_),by(try simp only[List.length_append,List.length_cons]);omega⟩
     have:=wrel_two hpart w1 (k+1) v1 L s1 r x h1 (by rw[hm];exact p1) p2 hl' (by omega)
     rw[hm]at this
     exact this
   · have e3:(prt x).toNat=1:=by
      unfold prt
      rw[if_neg (by omega),if_neg (by omega),if_pos (by omega)];rfl
     have p1:=just1 e3 (by omega)
     by_cases c21:x.op=21
     · rw[if_pos c21]
       refine⟨bare_rel w k v L _ r x h hxk c3 (fun w1 v1 h1=>?_),by(try simp only[List.length_append,List.length_cons]);omega⟩
       have:=wrel_name hpart w1 (k+1) v1 L r x h1 (by rw[hm];exact p1) hl' (.inl c21) (ex_name hx (.inl c21)) hwf.1
       rw[hm,if_pos c21]at this
       exact this
     rw[if_neg c21]
     by_cases c24:x.op=24
     · rw[if_pos c24]
       refine⟨bare_rel w k v L _ r x h hxk c3 (fun w1 v1 h1=>?_),by(try simp only[List.length_append,List.length_cons]);omega⟩
       have:=wrel_name hpart w1 (k+1) v1 L r x h1 (by rw[hm];exact p1) hl' (.inr c24) (ex_name hx (.inr (.inr c24))) hwf.1
       rw[hm,if_neg c21]at this
       exact this
     rw[if_neg c24,if_pos (by omega)]
     refine⟨bare_rel w k v L _ r x h hxk c3 (fun w1 v1 h1=>?_),by(try simp only[List.length_append,List.length_cons]);omega⟩
     have:=wrel_like hpart w1 (k+1) v1 L r x h1 (by rw[hm];exact p1) hl' (by omega)
     rw[hm]at this
     exact this
 rw[if_neg c3]
 by_cases c9:x.op=9∨x.op=10
 · have e3:(prt x).toNat=1:=by
    unfold prt
    rw[if_neg (by omega),if_neg (by omega),if_pos (by omega)];rfl
   have p1:=just1 e3 (by omega)
   have hlv:lvO x.op=6:=by rcases c9 with o | o<;>(rw[o];rfl)
   rcases c9 with o | o
   · rw[if_pos o]
     refine⟨bare_sign w k v L _ r x h hxk hlv (fun w1 v1 h1=>?_),by(try simp only[List.length_append,List.length_cons]);omega⟩
     have:=wsign_not hpart w1 (k+1) v1 L r x h1 (by rw[hm];exact p1) hl' o
     rw[hm]at this
     exact this
   · rw[if_neg (by omega),if_pos o]
     refine⟨bare_sign w k v L _ r x h hxk hlv (fun w1 v1 h1=>?_),by(try simp only[List.length_append,List.length_cons]);omega⟩
     have:=wsign_neg hpart w1 (k+1) v1 L r hins x h1 (by rw[hm];exact p1) hl' o
     rw[hm]at this
     exact this
 rw[if_neg (by omega),if_neg (by omega)]
 by_cases c7:lvO x.op=7
 · rw[if_pos c7]
   have ho:x.op=22∨25≤x.op∧x.op≤27:=by
    unfold lvO at c7
    repeat' split at c7
    all_goals omega
   by_cases o:x.op=22
   · have e3:(prt x).toNat=1:=by
      unfold prt
      rw[if_neg (by omega),if_neg (by omega),if_pos (by omega)];rfl
     have p1:=just1 e3 (by omega)
     rw[if_pos o]
     refine⟨bare_post w k v L _ r x h hxk c7 (fun w1 v1 h1=>?_),by(try simp only[List.length_append,List.length_cons]);omega⟩
     have:=wpost_get hpart w1 (k+1) v1 L r x h1 (by rw[hm];exact p1) hl' o (ex_name hx (.inr (.inl o))) hwf.1
     rw[hm]at this
     exact this
   · have e3:(prt x).toNat=2:=by
      unfold prt
      rw[if_neg (by omega),if_neg (by omega),if_neg (by omega),if_neg (by omega),if_pos (by omega)];rfl
     obtain⟨s1,p1,p2⟩:=just2 e3 (by omega)
     rw[if_neg o,nxt_of p1]
     refine⟨bare_post w k v L _ r x h hxk c7 (fun w1 v1 h1=>?_),by(try simp only[List.length_append,List.length_cons]);omega⟩
     have:=wpost_call hpart w1 (k+1) v1 L s1 r x h1 (by rw[hm];exact p1) p2 hl' (by omega)
     rw[hm]at this
     exact this
 rw[if_neg c7]
 have hlv:lvO x.op=8:=by
  have:=lvO_le x.op
  have h0:lvO x.op≠0:=fun h=>c13 (lv0 h)
  have h6:lvO x.op≠6:=fun h=>c9 (lv6 h)
  omega
 have hop:x.op=1∨x.op=2∨x.op=3∨x.op=4∨x.op=5∨x.op=6∨x.op=8:=by
  unfold lvO at hlv
  repeat' split at hlv
  all_goals omega
 by_cases c5:x.op=5
 · rw[if_pos c5]
   rcases hr with⟨h6,_⟩ | ⟨_,hp⟩
   · omega
   have hnd:=ex_value hx (by omega)
   have hn0:0≤x.n:=by
    unfold ndOk at hnd
    rw[if_neg (by omega),if_neg (by omega),if_neg (by omega),if_neg (by omega),if_pos (by omega)]at hnd
    simp at hnd
    exact hnd.2
   have e3:prt x=x.n:=by unfold prt;rw[if_pos (by omega)]
   rw[e3]at hp
   have hcn:x.n.toNat≤200:=by
    have:=partsE_count hp
    have hml:m.length=e.length-(k+1):=by rw[←hm,List.length_drop]
    omega
   refine⟨bare_atom w k v L _ r x h hxk hlv (fun w1 v1 h1=>?_),by(try simp only[List.length_append,List.length_cons]);omega⟩
   have:=watom_set hpart w1 (k+1) v1 L r x h1 hl' c5 hn0 (by omega) (by rw[hm];exact hp)
   rw[hm]at this
   exact this
 rw[if_neg c5]
 by_cases c6:x.op=6
 · rw[if_pos c6]
   rcases hr with⟨_,hp⟩ | ⟨h6,_⟩
   · have hnd:=ex_value hx (by omega)
     have hn0:0≤x.n:=by
      unfold ndOk at hnd
      rw[if_neg (by omega),if_neg (by omega),if_neg (by omega),if_neg (by omega),if_pos (by omega)]at hnd
      simp at hnd
      exact hnd.2
     have hcn:x.n.toNat≤200:=by
      have:=recLoop_count hp
      have hml:m.length=e.length-(k+1):=by rw[←hm,List.length_drop]
      omega
     refine⟨bare_atom w k v L _ r x h hxk hlv (fun w1 v1 h1=>?_),by(try simp only[List.length_append,List.length_cons]);omega⟩
     have:=watom_rec hpart w1 (k+1) v1 L r x h1 hl' c6 hn0 (by omega) ⟨#[]⟩ (by rw[hm];exact hp)
     rw[hm]at this
     exact this
   · exact absurd c6 h6
 rw[if_neg c6]
 have e3:(prt x).toNat=0:=by
  unfold prt
  rw[if_neg (by omega),if_pos (by omega)];rfl
 have hmr:m=r:=by
  rcases hr with⟨h6,_⟩ | ⟨_,hp⟩
  · exact absurd h6 c6
  · rw[e3]at hp;exact partsE_end hp
 have hrl:r.length=e.length-(k+1):=by rw[←hmr,←hm,List.length_drop]
 have conv:∀(w1:World) (W:List Tk),W.length≤8→Calls Tryz.prog 40 #[.pointer (some ⟨B,0,none⟩),ndW x] w1 (fun en w'=>en= .returned (.tuple #[])∧Wr B p c e (k+1) (L++W) w1 w')→Calls Tryz.prog 40 #[.pointer (some ⟨B,0,none⟩),ndW x] w1 (Wrote B p c e (k+1) r L W w1):=by
  intro w1 W hW hC
  refine hC.mono ?_
  rintro en w' ⟨rfl,h1⟩
  have:e.length-r.length=k+1:=by omega
  exact⟨rfl,by rw[this];exact h1,by omega⟩
 unfold atomW
 by_cases o1:x.op=1
 · rw[if_pos o1]
   have hnd:=ex_value hx (by omega)
   have hb:x.n=0∨x.n=1:=by
    unfold ndOk at hnd
    rw[if_pos o1]at hnd
    simp at hnd
    exact hnd.2
   exact⟨bare_atom w k v L _ r x h hxk hlv (fun w1 v1 h1=>conv w1 _ (by simp) (watom_bool w1 (k+1) v1 L x h1 hl' o1 hb)),by simp⟩
 rw[if_neg o1]
 by_cases o2:x.op=2
 · rw[if_pos o2]
   refine⟨bare_atom w k v L _ r x h hxk hlv (fun w1 v1 h1=>conv w1 _ ?_ (watom_num w1 (k+1) v1 L x h1 hl' o2 (hn64 o2))),?_⟩
   · split<;>simp
   · split<;>simp
 rw[if_neg o2]
 by_cases o3:x.op=3
 · rw[if_pos o3]
   exact⟨bare_atom w k v L _ r x h hxk hlv (fun w1 v1 h1=>conv w1 _ (by simp) (watom_text w1 (k+1) v1 L x h1 hl' o3)),by simp⟩
 rw[if_neg o3]
 by_cases o4:x.op=4
 · rw[if_pos o4]
   have hnd:=ex_value hx (by omega)
   have hnf:nfault x.s.data.toList=0:=by
    unfold ndOk at hnd
    rw[if_neg o1,if_neg o2,if_neg o3,if_pos o4]at hnd
    simp at hnd
    exact hnd.1.2
   exact⟨bare_atom w k v L _ r x h hxk hlv (fun w1 v1 h1=>conv w1 _ (by simp) (watom_ent w1 (k+1) v1 L x h1 hl' o4 hnf hwf.1)),by simp⟩
 rw[if_neg o4]
 refine⟨bare_atom w k v L _ r x h hxk hlv (fun w1 v1 h1=>conv w1 _ ?_ (watom_var w1 (k+1) v1 L x h1 hl' (by omega))),?_⟩
 · split<;>simp
 · split<;>simp
theorem all_bare {B:Nat}{p:Option Addr}{c:Nat}{e:List Nd}(hins:InsOk)(hN:∀x∈e,n64 x):∀f,BareOk f B p c e
 | 0=>fun w k v L r h hp hl=>by simp[pastE]at hp
 | f+1=>bare_ok hins hN (part_ok (all_bare hins hN f))
def printL (e:List Nd):Except Int (List Tk):=if xfault e=0 then(if 300<(wrd e).length then .error 4 else .ok (wrd e))else .error (xfault e)
def PrintE (R:Except Int (List Tk))(en:Ending)(w':World):Prop:=
 match R with
 | .ok ts=>∃q cc,en= .returned (.tuple #[.slice q ts.length cc,.nilIface])∧TKL w' q ts∧ts.length≤cc∧cc≤maxLen
 | .error n=>en= .returned (.tuple #[.slice none 0 0,.iface 33 (.int .i64 n)])
theorem print_bad (e:List Nd)(p:Option Addr)(c:Nat)(w:World)(h:NL w p e)(hl:e.length≤maxLen)(hx:xfault e≠0):
 Calls Tryz.prog 4 #[.slice p e.length c] w fun en w'=>PrintE (.error (xfault e)) en w'∧Below w.heap.size w w':=by
 have HC:=tcheck_any e p c w h hl
 rw[eV_not hx]at HC
 generalize xfault e=n at *
 go_enter Tryz.func4,Tryz.ntmps4
 go_wp2_with fail
 refine HC.mono ?_
 rintro en w1 ⟨rfl,hb1⟩
 go_wp2
 go_ret2
 exact⟨rfl,hb1⟩
def PrintF (N:Nat)(R:Except Int (List Tk))(en:Ending)(w':World):Prop:=
 match R with
 | .ok ts=>∃q cc,en= .returned (.tuple #[.slice q ts.length cc,.nilIface])∧TKL w' q ts∧ts.length≤cc∧cc≤maxLen∧∀a,q=some a→N≤a.block
 | .error n=>en= .returned (.tuple #[.slice none 0 0,.iface 33 (.int .i64 n)])
theorem PrintF.e {N:Nat}{R:Except Int (List Tk)}{en:Ending}{w':World}(h:PrintF N R en w'):PrintE R en w':=by
 cases R with
 | ok ts=>obtain⟨q,cc,e,h1,h2,h3,_⟩:=h;exact⟨q,cc,e,h1,h2,h3⟩
 | error n=>exact h
theorem print_goodF (hins:InsOk)(e:List Nd)(p:Option Addr)(c:Nat)(w:World)(h:NL w p e)(hl:e.length≤maxLen)(hx:xfault e=0)(ht:Tab w)(hN:∀x∈e,n64 x):
 Calls Tryz.prog 4 #[.slice p e.length c] w fun en w'=>PrintF w.heap.size (if 300<(wrd e).length then .error 4 else .ok (wrd e)) en w'∧Below w.heap.size w w':=by
 have HC:=tcheck_any e p c w h hl
 rw[eV_nil hx]at HC
 obtain⟨hl2,hpast⟩:=xfault_zero hx
 have hne:e≠[]:=past_ne hpast
 have hgl:1<w.heap.size:=by
  unfold Tab Lib.TabIs World.var? at ht
  simp only[Tryz.gPow,Option.bind_some]at ht
  rcases Nat.lt_or_ge 1 w.heap.size with h' | h'
  · exact h'
  · rw[Array.getElem?_eq_none h']at ht;cases ht
 have HWd:Hid (wdE (e.length+1) e=wrd e):=rfl
 generalize wrd e=ts at *
 by_cases h3:300<ts.length
 · rw[if_pos h3]
   go_enter Tryz.func4,Tryz.ntmps4
   go_wp2_with fail
   refine HC.mono ?_
   rintro en w1 ⟨rfl,hb1⟩
   have hs1:=hb1.size
   have hW:WS (w1.alloc (.cells #[.slice p e.length c,.int .i64 ((0:Nat):Int),.slice none 0 0] 40)) w1.heap.size p c e 0 (.slice none 0 0) []:=
    ⟨heap_alloc_new _ _,OTk.nil _ _,(h.up hb1).up ((Below.refl _ _).alloc (Nat.le_refl _) _),fun a ha=>by
     rcases h with h0 | ⟨b,o,h0,h1,_⟩
     · exact absurd h0 hne
     · rw[h0]at ha;cases ha;show b<_;omega,Nat.zero_le _,hl2,(ht.keep (hb1.block _ hgl)).keep (((Below.refl w1.heap.size w1).alloc (Nat.le_refl _) _).block _ (by omega)),by omega⟩
   have HP:=part_ok (all_bare hins hN (e.length+1)) _ 0 _ [] [] 0 hW (by rw[List.drop_zero];exact hpast) (by simp;omega)
   rw[part0,List.drop_zero]at HP
   rw[HWd.out,List.nil_append]at HP
   have hb2:Below w1.heap.size w1 (w1.alloc (.cells #[.slice p e.length c,.int .i64 ((0:Nat):Int),.slice none 0 0] 40)):=(Below.refl _ _).alloc (Nat.le_refl _) _
   go_wp2_with fail
   refine HP.mono ?_
   rintro en w2 ⟨rfl,⟨⟨v2,h2⟩,k2⟩,l0,l1⟩
   obtain⟨q2,cc,rfl,hk2,hc1,hc2,_⟩:=h2.own.slice
   have c2:=h2.c2
   have hb3:Below w.heap.size w w2:=hb1.trans ((hb2.trans k2.bel).mono hs1)
   have hl3:ts.length≤10000:=by have:=l1.1;simp at this;omega
   have i3:(300:Int)<(ts.length:Int):=by omega
   go_wp2
   go_ret2
   exact⟨rfl,hb3⟩
 · rw[if_neg h3]
   go_enter Tryz.func4,Tryz.ntmps4
   go_wp2_with fail
   refine HC.mono ?_
   rintro en w1 ⟨rfl,hb1⟩
   have hs1:=hb1.size
   have hW:WS (w1.alloc (.cells #[.slice p e.length c,.int .i64 ((0:Nat):Int),.slice none 0 0] 40)) w1.heap.size p c e 0 (.slice none 0 0) []:=
    ⟨heap_alloc_new _ _,OTk.nil _ _,(h.up hb1).up ((Below.refl _ _).alloc (Nat.le_refl _) _),fun a ha=>by
     rcases h with h0 | ⟨b,o,h0,h1,_⟩
     · exact absurd h0 hne
     · rw[h0]at ha;cases ha;show b<_;omega,Nat.zero_le _,hl2,(ht.keep (hb1.block _ hgl)).keep (((Below.refl w1.heap.size w1).alloc (Nat.le_refl _) _).block _ (by omega)),by omega⟩
   have HP:=part_ok (all_bare hins hN (e.length+1)) _ 0 _ [] [] 0 hW (by rw[List.drop_zero];exact hpast) (by simp;omega)
   rw[part0,List.drop_zero]at HP
   rw[HWd.out,List.nil_append]at HP
   have hb2:Below w1.heap.size w1 (w1.alloc (.cells #[.slice p e.length c,.int .i64 ((0:Nat):Int),.slice none 0 0] 40)):=(Below.refl _ _).alloc (Nat.le_refl _) _
   go_wp2_with fail
   refine HP.mono ?_
   rintro en w2 ⟨rfl,⟨⟨v2,h2⟩,k2⟩,l0,l1⟩
   obtain⟨q2,cc,rfl,hk2,hc1,hc2,hq2⟩:=h2.own.slice
   have HQ2:Hid (∀a,q2=some a→w.heap.size≤a.block):=fun a ha=>by have:=hq2 a ha;omega
   clear hq2
   have c2:=h2.c2
   have hb3:Below w.heap.size w w2:=hb1.trans ((hb2.trans k2.bel).mono hs1)
   have hl3:ts.length≤10000:=by have:=l1.1;simp at this;omega
   have i3:¬(300:Int)<(ts.length:Int):=by omega
   go_wp2
   go_ret2
   exact⟨⟨q2,cc,rfl,hk2,hc1,hc2,HQ2.out⟩,hb3⟩
theorem print_good (hins:InsOk)(e:List Nd)(p:Option Addr)(c:Nat)(w:World)(h:NL w p e)(hl:e.length≤maxLen)(hx:xfault e=0)(ht:Tab w)(hN:∀x∈e,n64 x):
 Calls Tryz.prog 4 #[.slice p e.length c] w fun en w'=>PrintE (if 300<(wrd e).length then .error 4 else .ok (wrd e)) en w'∧Below w.heap.size w w':=(print_goodF hins e p c w h hl hx ht hN).mono fun _ _ h=>⟨h.1.e,h.2⟩
theorem print_any (hins:InsOk)(e:List Nd)(p:Option Addr)(c:Nat)(w:World)(h:NL w p e)(hl:e.length≤maxLen)(ht:Tab w)(hN:∀x∈e,n64 x):
 Calls Tryz.prog 4 #[.slice p e.length c] w fun en w'=>PrintE (printL e) en w'∧Below w.heap.size w w':=by
 unfold printL
 by_cases hx:xfault e=0
 · rw[if_pos hx];exact print_good hins e p c w h hl hx ht hN
 · rw[if_neg hx];exact print_bad e p c w h hl hx
end Go.Proofs.YtgbljlabifpmgaaGreatDoor
namespace Go.Proofs.YtgbljlabifpmgaaGreatDoor
open Go.RowKit
set_option maxRecDepth 100000
def WRet (A:List Tk)(n k1:Nat)(en:Ending)(w':World):Prop:=∃q cc,en= .returned (.tuple #[.slice q n cc,.int .i64 (k1:Int)])∧TArg w' A n q cc
structure EArg (w:World)(e:List Nd)(p:Option Addr):Prop where
 nl:NL w p e
 len:e.length≤200
 n64:∀x∈e,n64 x
theorem EArg.up {w w':World}{e:List Nd}{p:Option Addr}(h:EArg w e p)(hb:Below w.heap.size w w'):EArg w' e p:=⟨h.nl.up hb,h.len,h.n64⟩
def WOk (f:Nat):Prop:=∀(e:List Nd) (p:Option Addr) (c:Nat) (w:World) (k:Nat) (r:List Nd),EArg w e p→pastE f (e.drop k)=some r→
 Calls Tryz.prog 15 #[.slice p e.length c,.int .i64 (k:Int)] w fun en w'=>WRet (wdE f (e.drop k)) (wdE f (e.drop k)).length (e.length-r.length) en w'∧Below w.heap.size w w'∧1≤(wdE f (e.drop k)).length∧(wdE f (e.drop k)).length+2+12*r.length≤12*(e.length-k)
def POk (f:Nat):Prop:=∀(e:List Nd) (p:Option Addr) (c:Nat) (w:World) (k:Nat) (r:List Nd) (least:Nat),EArg w e p→pastE f (e.drop k)=some r→
 Calls Tryz.prog 24 #[.slice p e.length c,.int .i64 (k:Int),.int .i64 (least:Int)] w fun en w'=>WRet (partW (wdE f) least (e.drop k)) (partW (wdE f) least (e.drop k)).length (e.length-r.length) en w'∧Below w.heap.size w w'∧1≤(partW (wdE f) least (e.drop k)).length∧(partW (wdE f) least (e.drop k)).length+12*r.length≤12*(e.length-k)
theorem ex_range {x:Nd}(h:exOk x=true):1≤x.op∧x.op≤27:=by
 unfold exOk prt at h
 repeat' split at h
 all_goals first | omega | cases h
theorem part_words {f:Nat}(hW:WOk f):POk f:=by
 intro e p c w k r least he hp
 obtain⟨x,hx,hop,hxo,_⟩:=past_op hp
 have hk:k<e.length:=(List.getElem?_eq_some_iff.1 hx).1
 have hex:e[k]=x:=by rw[List.getElem?_eq_getElem hk]at hx;exact Option.some.inj hx
 have HW:=hW e p c w k r he hp
 obtain⟨bq,oq,hpq,hbq,e0,e1,e2,e3,_⟩:=he.nl.at hk
 rw[hex]at e0 e1 e2 e3
 subst hpq
 have hr:=ex_range hxo
 have HL:=fun w=>level_any x.op w hr
 have i1:(k:Int)<(e.length:Int):=by omega
 have hle:=he.len
 obtain⟨A,hA⟩:∃A,A=wdE f (e.drop k):=⟨_,rfl⟩
 obtain⟨n,hn⟩:∃n,n=A.length:=⟨_,rfl⟩
 have HP:Hid (partW (wdE f) least (e.drop k)=if lvO x.op<least then brk A else A):=by show _=_;unfold partW;rw[hop,hA]
 rw[←hA,←hn]at HW
 have HN:Hid (n=A.length):=hn
 clear hn hA
 by_cases hf:lvO x.op<least
 · have i2:(lvO x.op:Int)<(least:Int):=by omega
   go_enter Tryz.func24,Tryz.ntmps24
   go_wp2_with fail
   refine HW.mono ?_
   rintro en w1 ⟨⟨q1,c1,rfl,h1⟩,hb1,l0,l1⟩
   have d0:=(hb1.cell (p:=⟨bq,oq+k*4,none⟩) hbq).trans e0
   have d1:=(hb1.cell (p:=⟨bq,oq+k*4+1,none⟩) hbq).trans e1
   have d2:=(hb1.cell (p:=⟨bq,oq+k*4+2,none⟩) hbq).trans e2
   have d3:=(hb1.cell (p:=⟨bq,oq+k*4+3,none⟩) hbq).trans e3
   clear e0 e1 e2 e3
   go_wp2_with (go_at_call 23;refine(HL _).mono ?_;rintro en w2 ⟨rfl,rfl⟩)
   refine(bracketed_any h1 (by omega)).mono ?_
   rintro en w3 ⟨⟨q3,c3,rfl,h3⟩,hb3⟩
   go_wp2
   go_ret2
   rw[HP.out,if_pos hf]
   have e4:(brk A).length=n+2:=h3.len
   rw[e4]
   exact⟨⟨q3,c3,rfl,h3⟩,qbt hb1 hb3,by omega,by omega⟩
 · have i2:¬(lvO x.op:Int)<(least:Int):=by omega
   go_enter Tryz.func24,Tryz.ntmps24
   go_wp2_with fail
   refine HW.mono ?_
   rintro en w1 ⟨⟨q1,c1,rfl,h1⟩,hb1,l0,l1⟩
   have d0:=(hb1.cell (p:=⟨bq,oq+k*4,none⟩) hbq).trans e0
   have d1:=(hb1.cell (p:=⟨bq,oq+k*4+1,none⟩) hbq).trans e1
   have d2:=(hb1.cell (p:=⟨bq,oq+k*4+2,none⟩) hbq).trans e2
   have d3:=(hb1.cell (p:=⟨bq,oq+k*4+3,none⟩) hbq).trans e3
   clear e0 e1 e2 e3
   go_wp2_with (go_at_call 23;refine(HL _).mono ?_;rintro en w2 ⟨rfl,rfl⟩)
   go_ret2
   rw[HP.out,if_neg hf,←HN.out]
   exact⟨⟨q1,c1,rfl,h1⟩,hb1,by omega,by omega⟩
theorem part_at {f:Nat}(hP:POk f)(e:List Nd)(p:Option Addr)(c:Nat)(w:World)(k:Nat)(m r:List Nd)(least:Nat)(A:List Tk)(n k1:Nat)(he:EArg w e p)(hm:e.drop k=m)(hp:pastE f m=some r)
 (hA:partW (wdE f) least m=A) (hn:A.length=n) (hk:e.length-r.length=k1):
 Calls Tryz.prog 24 #[.slice p e.length c,.int .i64 (k:Int),.int .i64 (least:Int)] w fun en w'=>WRet A n k1 en w'∧Below w.heap.size w w'∧1≤n∧n+12*r.length≤12*(e.length-k):=by
 subst hA hn hk hm
 exact hP e p c w k r least he hp
def WEnd (e:List Nd)(k:Nat)(r:List Nd)(W:List Tk)(w:World)(en:Ending)(w':World):Prop:=
 WRet W W.length (e.length-r.length) en w'∧Below w.heap.size w w'∧1≤W.length∧W.length+12*r.length≤12*(e.length-(k+1))+8
theorem nmW_self (s:ByteArray):nmW s.data.toList=⟨1,s,0⟩:=by unfold nmW mkT;simp
theorem qtW_self (s:ByteArray):qtW s.data.toList=⟨3,s,0⟩:=by unfold qtW mkT;simp
theorem part0r (w:List Nd→List Tk)(v:List Nd):partW w 0 v=w v:=by unfold partW;rw[if_neg (Nat.not_lt_zero _)]
structure NV (w:World)(B:Nat)(o n:Int)(s t:ByteArray):Prop where
 blk:w.heap[B]? =some (.cells #[.int .i64 o,.int .i64 n,.string s,.string t] 29 (0,0))
theorem NV.lt {w:World}{B:Nat}{o n:Int}{s t:ByteArray}(h:NV w B o n s t):B<w.heap.size:=(Array.getElem?_eq_some_iff.1 h.blk).1
theorem NV.up {w w':World}{B:Nat}{o n:Int}{s t:ByteArray}(h:NV w B o n s t)(hb:Below w.heap.size w w'):NV w' B o n s t:=⟨(hb.block B h.lt).trans h.blk⟩
theorem NV.new (w:World)(o n:Int)(s t:ByteArray):NV (w.alloc (.cells #[.int .i64 o,.int .i64 n,.string s,.string t] 29)) w.heap.size o n s t:=⟨heap_alloc_new _ _⟩
theorem NV.cells {w:World}{B:Nat}{o n:Int}{s t:ByteArray}(h:NV w B o n s t):w.cell? ⟨B,0,none⟩=some (.int .i64 o)∧w.cell? ⟨B,1,none⟩=some (.int .i64 n)∧w.cell? ⟨B,2,none⟩=some (.string s)∧w.cell? ⟨B,3,none⟩=some (.string t):=by
 have:=h.blk
 simp[World.cell?, this]
theorem drop_behind {e:List Nd}{k:Nat}(hk:k<e.length):e.length-(e.drop (k+1)).length=k+1:=by rw[List.length_drop];omega
theorem atom_end {e:List Nd}{k:Nat}{W:List Tk}{n:Nat}{w w':World}{q:Option Addr}{c:Nat}(hk:k<e.length)(h:TArg w' W n q c)(hb:Below w.heap.size w w')(h1:1≤n)(h8:n≤8):
 WEnd e k (e.drop (k+1)) W w (.returned (.tuple #[.slice q n c,.int .i64 ((k:Int)+1)])) w':=by
 obtain rfl:W.length=n:=h.len
 refine⟨⟨q,c,by rw[drop_behind hk];rfl,h⟩,hb,h1,?_⟩
 rw[List.length_drop];omega
theorem aw_bool (e:List Nd)(p:Option Addr)(c:Nat)(w:World)(k:Nat)(x:Nd)(he:EArg w e p)(hx:e[k]? =some x)(hop:x.op=1):
 Calls Tryz.prog 29 #[.slice p e.length c,.int .i64 (k:Int)] w (WEnd e k (e.drop (k+1)) ([nmW (if x.n=1 then wTrue else wFalse)]) w):=by
 have hk:k<e.length:=(List.getElem?_eq_some_iff.1 hx).1
 have hex:e[k]=x:=by rw[List.getElem?_eq_getElem hk]at hx;exact Option.some.inj hx
 have hwf:=he.nl.wfs x (List.mem_of_getElem? hx)
 have h64:=he.n64 x (List.mem_of_getElem? hx)
 obtain⟨bq,oq,hpq,hbq,e0,e1,e2,e3,_⟩:=he.nl.at hk
 rw[hex]at e0 e1 e2 e3
 subst hpq
 have hle:=he.len
 have i1:(k:Int)<(e.length:Int):=by omega
 obtain⟨op,nn,ss,tt⟩:=x
 dsimp only at hop e0 e1 e2 e3 hwf h64 ⊢
 subst hop
 obtain⟨V,hV⟩:∃V,V=w.alloc (.cells #[.int .i64 1,.int .i64 nn,.string ss,.string tt] 29):=⟨_,rfl⟩
 have hbV:Below w.heap.size w V:=by rw[hV];exact(Below.refl _ _).alloc (Nat.le_refl _) _
 have S:NV V w.heap.size 1 nn ss tt:=by rw[hV];exact NV.new w _ _ _ _
 by_cases hn:nn=1
 · rw[if_pos hn]
   subst hn
   clear he hx hex h64
   go_enter Tryz.func29,Tryz.ntmps29
   obtain⟨n0,n1,n2,n3⟩:=S.cells
   go_wp2_with fail
   rw[←hV]
   clear hV e0 e1 e2 e3
   refine(word_one 1 ⟨#[116,114,117,101]⟩ _ (by unfold maxLen;decide)).mono ?_
   rintro en w1 ⟨⟨qA,cA,rfl,hA⟩,hbb⟩
   clear n0 n1 n2 n3
   replace hbV:=qbt hbV hbb
   replace S:=S.up hbb
   clear hbb
   go_wp2
   go_ret2
   exact atom_end (W:=[nmW wTrue]) hk hA hbV (by omega) (by omega)
 · rw[if_neg hn]
   have n1:(nn == 1)=false:=by simpa using hn
   clear hn
   clear he hx hex h64
   go_enter Tryz.func29,Tryz.ntmps29
   obtain⟨n0,n1,n2,n3⟩:=S.cells
   go_wp2_with fail
   rw[←hV]
   clear hV e0 e1 e2 e3
   refine(word_one 1 ⟨#[102,97,108,115,101]⟩ _ (by unfold maxLen;decide)).mono ?_
   rintro en w1 ⟨⟨qA,cA,rfl,hA⟩,hbb⟩
   clear n0 n1 n2 n3
   replace hbV:=qbt hbV hbb
   replace S:=S.up hbb
   clear hbb
   go_wp2
   go_ret2
   exact atom_end (W:=[nmW wFalse]) hk hA hbV (by omega) (by omega)
theorem aw_text (e:List Nd)(p:Option Addr)(c:Nat)(w:World)(k:Nat)(x:Nd)(he:EArg w e p)(hx:e[k]? =some x)(hop:x.op=3):
 Calls Tryz.prog 29 #[.slice p e.length c,.int .i64 (k:Int)] w (WEnd e k (e.drop (k+1)) ([qtW x.s.data.toList]) w):=by
 have hk:k<e.length:=(List.getElem?_eq_some_iff.1 hx).1
 have hex:e[k]=x:=by rw[List.getElem?_eq_getElem hk]at hx;exact Option.some.inj hx
 have hwf:=he.nl.wfs x (List.mem_of_getElem? hx)
 have h64:=he.n64 x (List.mem_of_getElem? hx)
 obtain⟨bq,oq,hpq,hbq,e0,e1,e2,e3,_⟩:=he.nl.at hk
 rw[hex]at e0 e1 e2 e3
 subst hpq
 have hle:=he.len
 have i1:(k:Int)<(e.length:Int):=by omega
 obtain⟨op,nn,ss,tt⟩:=x
 dsimp only at hop e0 e1 e2 e3 hwf h64 ⊢
 subst hop
 rw[qtW_self]
 obtain⟨V,hV⟩:∃V,V=w.alloc (.cells #[.int .i64 3,.int .i64 nn,.string ss,.string tt] 29):=⟨_,rfl⟩
 have hbV:Below w.heap.size w V:=by rw[hV];exact(Below.refl _ _).alloc (Nat.le_refl _) _
 have S:NV V w.heap.size 3 nn ss tt:=by rw[hV];exact NV.new w _ _ _ _
 clear he hx hex h64
 go_enter Tryz.func29,Tryz.ntmps29
 obtain⟨n0,n1,n2,n3⟩:=S.cells
 go_wp2_with fail
 rw[←hV]
 clear hV e0 e1 e2 e3
 refine(word_one 3 ss _ hwf.1).mono ?_
 rintro en w1 ⟨⟨qA,cA,rfl,hA⟩,hbb⟩
 clear n0 n1 n2 n3
 replace hbV:=qbt hbV hbb
 replace S:=S.up hbb
 clear hbb
 go_wp2
 go_ret2
 exact atom_end hk hA hbV (by omega) (by omega)
theorem aw_ent (e:List Nd)(p:Option Addr)(c:Nat)(w:World)(k:Nat)(x:Nd)(he:EArg w e p)(hx:e[k]? =some x)(hop:x.op=4):
 Calls Tryz.prog 29 #[.slice p e.length c,.int .i64 (k:Int)] w (WEnd e k (e.drop (k+1)) ([nmW x.s.data.toList,sgW [58,58],qtW x.t.data.toList]) w):=by
 have hk:k<e.length:=(List.getElem?_eq_some_iff.1 hx).1
 have hex:e[k]=x:=by rw[List.getElem?_eq_getElem hk]at hx;exact Option.some.inj hx
 have hwf:=he.nl.wfs x (List.mem_of_getElem? hx)
 have h64:=he.n64 x (List.mem_of_getElem? hx)
 obtain⟨bq,oq,hpq,hbq,e0,e1,e2,e3,_⟩:=he.nl.at hk
 rw[hex]at e0 e1 e2 e3
 subst hpq
 have hle:=he.len
 have i1:(k:Int)<(e.length:Int):=by omega
 obtain⟨op,nn,ss,tt⟩:=x
 dsimp only at hop e0 e1 e2 e3 hwf h64 ⊢
 subst hop
 rw[qtW_self,nmW_self]
 obtain⟨V,hV⟩:∃V,V=w.alloc (.cells #[.int .i64 4,.int .i64 nn,.string ss,.string tt] 29):=⟨_,rfl⟩
 have hbV:Below w.heap.size w V:=by rw[hV];exact(Below.refl _ _).alloc (Nat.le_refl _) _
 have S:NV V w.heap.size 4 nn ss tt:=by rw[hV];exact NV.new w _ _ _ _
 clear he hx hex h64
 go_enter Tryz.func29,Tryz.ntmps29
 obtain⟨n0,n1,n2,n3⟩:=S.cells
 go_wp2_with fail
 rw[←hV]
 clear hV e0 e1 e2 e3
 clear n0 n1 n2 n3
 have m2:V.drew.cell? ⟨w.heap.size,2,none⟩=_:=S.cells.2.2.1
 have lm2:w.heap.size<V.drew.heap.size:=S.lt
 have m3:V.drew.cell? ⟨w.heap.size,3,none⟩=_:=S.cells.2.2.2
 have lm3:w.heap.size<V.drew.heap.size:=S.lt
 have hwr:IntKind.i64.wrap ((k:Int)+1)=(k:Int)+1:=IntWalk.i64_in _ (by omega)
 go_region_with (first
  | (go_at_call 26;have hz:=hb2;clear hz;refine(word_one 3 tt w2 hwf.2.1).mono ?_;rintro en w3 ⟨⟨qC,cC,rfl,hC⟩,hb3⟩;have hA3:=hA2.up hb3;have hB3:=hB.up hb3)
  | (go_at_call 26;have hz:=hb1;clear hz;refine(word_one 5 ⟨#[58,58]⟩ w1 (by unfold maxLen;decide)).mono ?_;rintro en w2 ⟨⟨qB,cB,rfl,hB⟩,hb2⟩;have hA2:=hA.up hb2;have m3:w2.cell? ⟨w.heap.size,3,none⟩=_:=(hb2.cell (p:=⟨w.heap.size,3,none⟩) lm3).trans m3;have lm3:=Nat.lt_of_lt_of_le lm3 hb2.size)
  | (go_at_call 26;refine(word_one 1 ss V.drew hwf.1).mono ?_;rintro en w1 ⟨⟨qA,cA,rfl,hA⟩,hb1⟩;have m3:w1.cell? ⟨w.heap.size,3,none⟩=_:=(hb1.cell (p:=⟨w.heap.size,3,none⟩) lm3).trans m3;have lm3:=Nat.lt_of_lt_of_le lm3 hb1.size)
  | (go_at_call 25;have hz:=hb4;clear hz;refine(glue (w:=w4) hA4 hD (by omega)).mono ?_;rintro en w5 ⟨⟨qE,cE,rfl,hE⟩,hb5⟩)
  | (go_at_call 25;have hz:=hb3;clear hz;refine(glue (w:=w3) hB3 hC (by omega)).mono ?_;rintro en w4 ⟨⟨qD,cD,rfl,hD⟩,hb4⟩;have hA4:=hA3.up hb4))
 all_goals
  have hbb:Below V.heap.size V w5:=(qbt (qbt (qbt (qbt (qbt (Below.refl V.heap.size V).drew hb1) hb2) hb3) hb4) hb5)
  replace hbV:=qbt hbV hbb
  replace S:=S.up hbb
  try simp only[Act.put,List.getElem_toArray,List.getElem_cons_succ,List.getElem_cons_zero,List.setIfInBounds_toArray,List.set_cons_zero,List.set_cons_succ]
  go_wp2
  go_ret2
  exact atom_end (W:=[⟨1,ss,0⟩,sgW [58,58],⟨3,tt,0⟩]) hk hE hbV (by omega) (by omega)
theorem aw_var (e:List Nd)(p:Option Addr)(c:Nat)(w:World)(k:Nat)(x:Nd)(he:EArg w e p)(hx:e[k]? =some x)(hop:x.op=8)(hn:x.s.data.toList≠[]):
 Calls Tryz.prog 29 #[.slice p e.length c,.int .i64 (k:Int)] w (WEnd e k (e.drop (k+1)) (if x.s.data.toList.head? =some 63 then[mkT 4 x.s.data.toList.tail 0]else[nmW x.s.data.toList]) w):=by
 have hk:k<e.length:=(List.getElem?_eq_some_iff.1 hx).1
 have hex:e[k]=x:=by rw[List.getElem?_eq_getElem hk]at hx;exact Option.some.inj hx
 have hwf:=he.nl.wfs x (List.mem_of_getElem? hx)
 have h64:=he.n64 x (List.mem_of_getElem? hx)
 obtain⟨bq,oq,hpq,hbq,e0,e1,e2,e3,_⟩:=he.nl.at hk
 rw[hex]at e0 e1 e2 e3
 subst hpq
 have hle:=he.len
 have i1:(k:Int)<(e.length:Int):=by omega
 obtain⟨op,nn,ss,tt⟩:=x
 dsimp only at hop e0 e1 e2 e3 hwf h64 ⊢
 subst hop
 rw[nmW_self]
 obtain⟨V,hV⟩:∃V,V=w.alloc (.cells #[.int .i64 8,.int .i64 nn,.string ss,.string tt] 29):=⟨_,rfl⟩
 have hbV:Below w.heap.size w V:=by rw[hV];exact(Below.refl _ _).alloc (Nat.le_refl _) _
 have S:NV V w.heap.size 8 nn ss tt:=by rw[hV];exact NV.new w _ _ _ _
 dsimp only at hn
 obtain⟨c0,cs,hcs⟩:∃c0 cs,ss.data.toList=c0::cs:=by cases h:ss.data.toList with | nil=>exact absurd h hn | cons a b=>exact⟨a,b,rfl⟩
 have hp0:0<ss.size:=by have:=congrArg List.length hcs;simp at this;omega
 have i2:(0:Int)<(ss.size:Int):=by omega
 have i3:(1:Int)≤(ss.size:Int):=by omega
 have hc0:ss[0]=c0:=by have:=drop_at ss 0 hp0;rw[List.drop_zero,hcs]at this;injection this with h1 _;exact h1.symm
 have HX:Hid (ss.data.toList.tail=(ss.extract 1 ss.size).data.toList):=by show _=_;rw[Lib.extract_data,List.take_of_length_le (by simp)];simp
 by_cases h63:c0=63
 · have e63:((ss[0].toNat:Int) == 63)=true:=by rw[hc0,h63];rfl
   rw[if_pos (by rw[hcs,h63];rfl)]
   clear hcs hc0 h63 hn
   clear he hx hex h64
   go_enter Tryz.func29,Tryz.ntmps29
   obtain⟨n0,n1,n2,n3⟩:=S.cells
   go_wp2_with fail
   rw[←hV]
   clear hV e0 e1 e2 e3
   refine(word_one 4 (ss.extract 1 ss.size) _ (by have:=hwf.1;simp;unfold maxLen at *; have h2:ss.size≤_:=this;omega)).mono ?_
   rintro en w1 ⟨⟨qA,cA,rfl,hA⟩,hbb⟩
   clear n0 n1 n2 n3
   replace hbV:=qbt hbV hbb
   replace S:=S.up hbb
   clear hbb
   go_wp2
   go_ret2
   rw[show mkT 4 ss.data.toList.tail 0=⟨4,ss.extract 1 ss.size,0⟩ by unfold mkT;rw[HX.out,Array.toArray_toList];rfl]
   exact atom_end hk hA hbV (by omega) (by omega)
 · have e63:((ss[0].toNat:Int) == 63)=false:=by rw[hc0];simp only[beq_eq_false_iff_ne,ne_eq];intro h;exact h63 (UInt8.toNat.inj (by have:(63:UInt8).toNat=63:=rfl;omega))
   rw[if_neg (by rw[hcs];intro h;simp at h;exact h63 h)]
   clear hcs hc0 h63 hn HX
   clear he hx hex h64
   go_enter Tryz.func29,Tryz.ntmps29
   obtain⟨n0,n1,n2,n3⟩:=S.cells
   go_wp2_with fail
   rw[←hV]
   clear hV e0 e1 e2 e3
   refine(word_one 1 ss _ hwf.1).mono ?_
   rintro en w1 ⟨⟨qA,cA,rfl,hA⟩,hbb⟩
   clear n0 n1 n2 n3
   replace hbV:=qbt hbV hbb
   replace S:=S.up hbb
   clear hbb
   go_wp2
   go_ret2
   exact atom_end hk hA hbV (by omega) (by omega)
theorem tdiv_abs (m:Int):(m.tdiv 10).natAbs=m.natAbs / 10:=by rw[Int.natAbs_tdiv];rfl
theorem tmod_abs (m:Int):(m.tmod 10).natAbs=m.natAbs % 10:=by rw[Int.natAbs_tmod];rfl
def decR (a:Nat)(t:List UInt8):List UInt8:=if a=0∧t≠[]then t else decL a++t
theorem decR_step {a:Nat}{t:List UInt8}(h:a≠0∨t=[]):decR a t=decR (a / 10) (UInt8.ofNat (48+a % 10)::t):=by
 unfold decR
 rw[if_neg (by rintro⟨h1,h2⟩;exact h.elim (fun g=>g h1) h2)]
 rw[decL]
 by_cases h10:a<10
 · rw[dif_pos h10,if_pos ⟨by omega,by simp⟩,Nat.mod_eq_of_lt h10];rfl
 · rw[dif_neg h10,if_neg (by rintro⟨h1,_⟩;omega)];simp
theorem decR_end {t:List UInt8}(h:t≠[]):decR 0 t=t:=by unfold decR;rw[if_pos ⟨rfl,h⟩]
theorem dec_short {a:Nat}{t:List UInt8}{n:Int}(h:decR a t=decL n.natAbs)(hn: -9223372036854775808≤n∧n≤9223372036854775807):t.length≤19:=by
 have h1:(decL n.natAbs).length≤19:=decL_len 18 _ (by omega)
 rw[←h]at h1
 unfold decR at h1
 split at h1
 · exact h1
 · rw[List.length_append]at h1;omega
theorem decR_begin (a:Nat):decR a []=decL a:=by unfold decR;rw[if_neg (by simp)];simp
theorem digit_cut (d:Nat)(hd:d<10)(t:List UInt8):(⟨#[48,49,50,51,52,53,54,55,56,57]⟩:ByteArray).extract d (d+1)++⟨⟨t⟩⟩=⟨⟨UInt8.ofNat (48+d)::t⟩⟩:=by
 have h:d=0∨d=1∨d=2∨d=3∨d=4∨d=5∨d=6∨d=7∨d=8∨d=9:=by omega
 apply bytes_inj
 rcases h with rfl | rfl | rfl | rfl | rfl | rfl | rfl | rfl | rfl | rfl<;>simp
def decM:Value→Value→Nat
 | .string s,m=>(intOf m).natAbs+(if s.data.toList=[]then 1 else 0)
 | _,m=>(intOf m).natAbs
theorem aw_num (e:List Nd)(p:Option Addr)(c:Nat)(w:World)(k:Nat)(x:Nd)(he:EArg w e p)(hx:e[k]? =some x)(hop:x.op=2):
 Calls Tryz.prog 29 #[.slice p e.length c,.int .i64 (k:Int)] w (WEnd e k (e.drop (k+1)) (if x.n<0 then[sgW [45],numW x.n.natAbs]else[numW x.n.natAbs]) w):=by
 have hk:k<e.length:=(List.getElem?_eq_some_iff.1 hx).1
 have hex:e[k]=x:=by rw[List.getElem?_eq_getElem hk]at hx;exact Option.some.inj hx
 have hwf:=he.nl.wfs x (List.mem_of_getElem? hx)
 have h64:=he.n64 x (List.mem_of_getElem? hx)
 obtain⟨bq,oq,hpq,hbq,e0,e1,e2,e3,_⟩:=he.nl.at hk
 rw[hex]at e0 e1 e2 e3
 subst hpq
 have hle:=he.len
 have i1:(k:Int)<(e.length:Int):=by omega
 obtain⟨op,nn,ss,tt⟩:=x
 dsimp only at hop e0 e1 e2 e3 hwf h64 ⊢
 subst hop
 have h6: -9223372036854775808≤nn∧nn≤9223372036854775807:=h64 rfl
 obtain⟨V,hV⟩:∃V,V=w.alloc (.cells #[.int .i64 2,.int .i64 nn,.string ss,.string tt] 29):=⟨_,rfl⟩
 have hbV:Below w.heap.size w V:=by rw[hV];exact(Below.refl _ _).alloc (Nat.le_refl _) _
 have S:NV V w.heap.size 2 nn ss tt:=by rw[hV];exact NV.new w _ _ _ _
 clear he hx hex h64
 obtain⟨R,hR⟩:∃R,R=(if nn<0 then[sgW [45],numW nn.natAbs]else[numW nn.natAbs]):=⟨_,rfl⟩
 rw[←hR]
 have HR:Hid (R=(if nn<0 then[sgW [45],numW nn.natAbs]else[numW nn.natAbs])):=hR
 clear hR
 go_enter Tryz.func29,Tryz.ntmps29
 obtain⟨n0,n1,n2,n3⟩:=S.cells
 go_wp2_with fail
 rw[←hV]
 clear hV e0 e1 e2 e3
 clear n0 n1 n2 n3
 go_loopw [7,8] (fun tx mm wr=>∃(t:List UInt8) (M:Int),tx= .string ⟨⟨t⟩⟩∧mm= .int .i64 M∧Hid (decR M.natAbs t=decL nn.natAbs)∧ -9223372036854775808≤M∧M≤9223372036854775807∧wr=V) (fun tx mm _=>decM tx mm)
 case atStart=>exact⟨[],nn,rfl,rfl,decR_begin _,h6.1,h6.2,rfl⟩
 case round=>
  obtain⟨t,M,rfl,rfl,HD,hM1,hM2,rfl⟩:=hrel
  have htl:t.length≤19:=dec_short HD.out h6
  obtain⟨n0,n1,n2,n3⟩:=S.cells
  by_cases hm:M=0
  · subst hm
    by_cases ht:t=[]
    · subst ht
      have HD2:Hid (decR 0 [48]=decL nn.natAbs):=by have:=HD.out;rw[decR_step (.inr rfl)]at this;exact this
      clear HD
      go_wp2
      go_roundw
      case rel=>exact⟨[48],0,rfl,rfl,HD2,by omega,by omega,by first | rfl | trivial⟩
      case measure=>simp[decM,intOf]
    · have e0:((⟨⟨t⟩⟩:ByteArray).toList == [])=false:=by rw[ByteArray.toList_eq];simpa using ht
      have HT:Hid (t=decL nn.natAbs):=by have:=HD.out;rw[show(0:Int).natAbs=0 from rfl,decR_end ht]at this;exact this
      have e1:t.isEmpty=false:=by cases t with | nil=>exact absurd rfl ht | cons a b=>rfl
      have e2:(t == [])=false:=by simpa using ht
      clear HD
      by_cases hn:nn<0
      · obtain rfl:R=[sgW [45],numW nn.natAbs]:=by have:=HR.out;rw[if_pos hn]at this;exact this
        clear HR
        clear n0 n1 n2 n3
        obtain⟨n0,n1,n2,n3⟩:=S.cells
        go_wp2_with fail
        refine(word_one 5 ⟨#[45]⟩ _ (by unfold maxLen;decide)).mono ?_
        rintro en w1 ⟨⟨qA,cA,rfl,hA⟩,hbb⟩
        clear n0 n1 n2 n3
        replace hbV:=qbt hbV hbb
        replace S:=S.up hbb
        clear hbb
        obtain⟨n0,n1,n2,n3⟩:=S.cells
        go_wp2_with fail
        refine(word_one 2 ⟨⟨t⟩⟩ _ (by show t.length≤maxLen;unfold maxLen;omega)).mono ?_
        rintro en w2 ⟨⟨qB,cB,rfl,hB⟩,hbb⟩
        clear n0 n1 n2 n3
        replace hA:=hA.up hbb
        replace hbV:=qbt hbV hbb
        replace S:=S.up hbb
        clear hbb
        obtain⟨n0,n1,n2,n3⟩:=S.cells
        go_wp2_with fail
        refine(glue hA hB (by omega)).mono ?_
        rintro en w3 ⟨⟨qC,cC,rfl,hC⟩,hbb⟩
        clear n0 n1 n2 n3
        replace hbV:=qbt hbV hbb
        replace S:=S.up hbb
        clear hbb
        obtain⟨n0,n1,n2,n3⟩:=S.cells
        go_wp2
        go_ret2
        rw[show numW nn.natAbs=⟨2,⟨⟨t⟩⟩,0⟩ by unfold numW mkT;rw[←HT.out];rfl]
        exact atom_end (W:=[sgW [45],⟨2,⟨⟨t⟩⟩,0⟩]) hk hC hbV (by omega) (by omega)
      · obtain rfl:R=[numW nn.natAbs]:=by have:=HR.out;rw[if_neg hn]at this;exact this
        clear HR
        clear n0 n1 n2 n3
        obtain⟨n0,n1,n2,n3⟩:=S.cells
        go_wp2_with fail
        refine(word_one 2 ⟨⟨t⟩⟩ _ (by show t.length≤maxLen;unfold maxLen;omega)).mono ?_
        rintro en w1 ⟨⟨qB,cB,rfl,hB⟩,hbb⟩
        clear n0 n1 n2 n3
        replace hbV:=qbt hbV hbb
        replace S:=S.up hbb
        clear hbb
        obtain⟨n0,n1,n2,n3⟩:=S.cells
        go_wp2
        go_ret2
        rw[show numW nn.natAbs=⟨2,⟨⟨t⟩⟩,0⟩ by unfold numW mkT;rw[←HT.out];rfl]
        exact atom_end hk hB hbV (by omega) (by omega)
  · have m0:(M != 0)=true:=by simpa using hm
    obtain⟨D,hD,hD10⟩:∃D:Nat,D=(M.tmod 10).natAbs∧D<10:=⟨_,rfl,by rw[tmod_abs];omega⟩
    have HD2:Hid (decR (M.tdiv 10).natAbs (UInt8.ofNat (48+D)::t)=decL nn.natAbs):=by have:=HD.out;rw[decR_step (.inl (by omega))]at this;show _=_;rw[tdiv_abs,hD,tmod_abs];exact this
    have hdv: -9223372036854775808≤M.tdiv 10∧M.tdiv 10≤9223372036854775807:=by have:=tdiv_abs M;omega
    have hlt:(M.tdiv 10).natAbs<M.natAbs:=by rw[tdiv_abs];omega
    by_cases hd:M.tmod 10<0
    · have eD: -M.tmod 10=(D:Int):=by omega
      clear hD
      have hD9:(D:Int)+1≤10:=by omega
      go_wp2
      go_roundw
      case rel=>exact⟨UInt8.ofNat (48+D)::t,M.tdiv 10,by rw[digit_cut _ hD10],rfl,HD2,hdv.1,hdv.2,by first | rfl | trivial⟩
      case measure=>
       rw[digit_cut _ hD10]
       show(M.tdiv 10).natAbs+(if (UInt8.ofNat (48+D)::t)=[]then 1 else 0)<M.natAbs+(if t=[]then 1 else 0)
       rw[if_neg (by simp)]
       split<;>omega
    · have eD:M.tmod 10=(D:Int):=by omega
      clear hD
      have hD9:(D:Int)+1≤10:=by omega
      go_wp2
      go_roundw
      case rel=>exact⟨UInt8.ofNat (48+D)::t,M.tdiv 10,by rw[digit_cut _ hD10],rfl,HD2,hdv.1,hdv.2,by first | rfl | trivial⟩
      case measure=>
       rw[digit_cut _ hD10]
       show(M.tdiv 10).natAbs+(if (UInt8.ofNat (48+D)::t)=[]then 1 else 0)<M.natAbs+(if t=[]then 1 else 0)
       rw[if_neg (by simp)]
       split<;>omega
theorem wo_neg {f:Nat}(hP:POk f)(e:List Nd)(p:Option Addr)(c:Nat)(w:World)(k:Nat)(x:Nd)(r:List Nd)(he:EArg w e p)(hx:e[k]? =some x)(hop:x.op=10)(p1:pastE f (e.drop (k+1))=some r):
 Calls Tryz.prog 15 #[.slice p e.length c,.int .i64 (k:Int)] w (WEnd e k r (sgW [45]::negW (partW (wdE f) 6 (e.drop (k+1)))) w):=by
 have hk:k<e.length:=(List.getElem?_eq_some_iff.1 hx).1
 have hex:e[k]=x:=by rw[List.getElem?_eq_getElem hk]at hx;exact Option.some.inj hx
 have hwf:=he.nl.wfs x (List.mem_of_getElem? hx)
 obtain⟨bq,oq,hpq,hbq,e0,e1,e2,e3,_⟩:=he.nl.at hk
 rw[hex]at e0 e1 e2 e3
 subst hpq
 have hle:=he.len
 have i1:(k:Int)<(e.length:Int):=by omega
 obtain⟨op,nn,ss,tt⟩:=x
 dsimp only at hop e0 e1 e2 e3 hwf ⊢
 subst hop
 have HL:=fun w=>level_any 10 w (by omega)
 rw[show lvO 10=6 from rfl]at HL
 obtain⟨A,hAA⟩:∃A,partW (wdE f) 6 (e.drop (k+1))=A:=⟨_,rfl⟩
 rw[hAA]
 obtain⟨nA,hnA⟩:∃n,A.length=n:=⟨_,rfl⟩
 have HPA:=fun w he=>part_at hP e (some ⟨bq,oq,none⟩) c w (k+1) _ r 6 A nA _ he rfl p1 hAA hnA rfl
 have hsA:=(nd_suffix p1).2
 have hbV:Below w.heap.size w (w.alloc (.cells #[.int .i64 10,.int .i64 nn,.string ss,.string tt] 29)):=(Below.refl _ _).alloc (Nat.le_refl _) _
 have hsV:w.heap.size<(w.alloc (.cells #[.int .i64 10,.int .i64 nn,.string ss,.string tt] 29)).heap.size:=by simp
 have m0:(w.alloc (.cells #[.int .i64 10,.int .i64 nn,.string ss,.string tt] 29)).cell? ⟨w.heap.size,0,none⟩=some (.int .i64 10):=by simp
 have m2:(w.alloc (.cells #[.int .i64 10,.int .i64 nn,.string ss,.string tt] 29)).cell? ⟨w.heap.size,2,none⟩=some (.string ss):=by simp
 have HE:Hid (∀w',Below w.heap.size w w'→EArg w' e (some ⟨bq,oq,none⟩)):=fun w' hb=>he.up hb
 clear hAA hnA he hx hex hP
 go_enter Tryz.func15,Tryz.ntmps15
 go_wp2_with (go_at_call 23;refine(HL _).mono ?_;rintro en w' ⟨rfl,rfl⟩)
 generalize hV:w.alloc (.cells #[.int .i64 10,.int .i64 nn,.string ss,.string tt] 29)=V at *
 clear hV e0 e1 e2 e3
 refine(HPA _ (HE.out _ hbV)).mono ?_
 rintro en w1 ⟨⟨qA,cA,rfl,hA⟩,hb1',lA,uA⟩
 clear HPA
 have hb1:=qbt hbV hb1'
 clear hb1' hbV
 obtain⟨t0,A',rfl⟩:∃t0 A',A=t0::A':=by
  cases A with
  | nil=>have:=hA.len;simp at this;omega
  | cons a b=>exact⟨a,b,rfl⟩
 obtain⟨b1,o1,hq1,hl1,d0,_⟩:=hA.tk.at (i:=0) (by simp)
 subst hq1
 simp only[Nat.zero_mul,Nat.add_zero,List.getElem_cons_zero]at d0
 have i2:(0:Int)<(nA:Int):=by omega
 by_cases h2:t0.kind=2
 · have HN:Hid (negW (t0::A')=brk (t0::A')):=by show _=_;unfold negW nextNum;rw[if_pos (by simpa using h2)]
   have k2:(t0.kind == 2)=true:=by simpa using h2
   clear h2
   go_wp2_with fail
   refine(bracketed_any hA (by omega)).mono ?_
   rintro en w2 ⟨⟨qK,cK,rfl,hK⟩,hb2'⟩
   have hb2:=qbt hb1 hb2'
   clear hb2' hb1
   go_wp2_with fail
   refine(word_one 5 ⟨#[45]⟩ _ (by unfold maxLen;decide)).mono ?_
   rintro en w3 ⟨⟨qS,cS,rfl,hS⟩,hb3'⟩
   have hK:=hK.up hb3'
   have hb3:=qbt hb2 hb3'
   clear hb3' hb2
   go_wp2_with fail
   refine(glue hS hK (by omega)).mono ?_
   rintro en w4 ⟨⟨qX,cX,rfl,hX⟩,hb4'⟩
   have hb4:=qbt hb3 hb4'
   clear hb4' hb3
   go_wp2
   go_ret2
   have eW:[⟨5,⟨#[45]⟩,0⟩]++brk (t0::A')=sgW [45]::negW (t0::A'):=by
    rw[HN.out];rfl
   have hln:=hX.len
   rw[eW]at hln
   unfold WEnd WRet
   rw[hln]
   rw[eW]at hX
   exact⟨⟨qX,cX,rfl,hX⟩,hb4,by omega,by omega⟩
 · have HN:Hid (negW (t0::A')=t0::A'):=by show _=_;unfold negW nextNum;rw[if_neg (by simpa using h2)]
   have k2:(t0.kind == 2)=false:=by simpa using h2
   clear h2
   go_wp2_with fail
   refine(word_one 5 ⟨#[45]⟩ _ (by unfold maxLen;decide)).mono ?_
   rintro en w2 ⟨⟨qS,cS,rfl,hS⟩,hb2'⟩
   have hA:=hA.up hb2'
   have hb2:=qbt hb1 hb2'
   clear hb2' hb1
   go_wp2_with fail
   refine(glue hS hA (by omega)).mono ?_
   rintro en w3 ⟨⟨qX,cX,rfl,hX⟩,hb3'⟩
   have hb3:=qbt hb2 hb3'
   clear hb3' hb2
   go_wp2
   go_ret2
   have eW:[⟨5,⟨#[45]⟩,0⟩]++(t0::A')=sgW [45]::negW (t0::A'):=by
    rw[HN.out];rfl
   have hln:=hX.len
   rw[eW]at hln
   unfold WEnd WRet
   rw[hln]
   rw[eW]at hX
   exact⟨⟨qX,cX,rfl,hX⟩,hb3,by omega,by omega⟩
end Go.Proofs.YtgbljlabifpmgaaGreatDoor
