import Derived.Test.YtlnhaajjoplafaaGreatDoorT22
import Derived.Test.YtlnhaajjoplafaaGreatDoorT15
import Derived.Test.YtlnhaajjoplafaaGreatDoorT21
import Derived.Shelf.Abstract
set_option linter.unusedVariables false
set_option maxHeartbeats 12000000
namespace Go.Proofs.YtlnhaajjoplafaaGreatDoor
open Go.RowKit
set_option maxRecDepth 100000
theorem tl_ne {a b:ByteArray}(h:a≠b):¬a.toList=b.toList:=fun e=>h (bytes_inj (by simpa only[ByteArray.toList_eq]using e))
theorem mem_next {us:List Ui}{k:Nat}(h:k<us.length){x:Ui}(hx:x∉us.take k)(hn:us[k]≠x):x∉us.take (k+1):=by
 rw[List.take_succ_eq_append_getElem h]
 intro hm
 rcases List.mem_append.1 hm with hm | hm
 · exact hx hm
 · simp only[List.mem_singleton]at hm;exact hn hm.symm
theorem indexU_any (us:List Ui)(p:Option Addr)(c:Nat)(x:Ui)(w:World)(hu:UL w p us)(hl:us.length≤maxLen):
 Calls Tryz.prog 173 #[.slice p us.length c,.agg #[.string x.t,.string x.i]] w fun e w'=>∃k:Int,e= .returned (.int .i64 k)∧(0≤k↔x∈us)∧Below w.heap.size w w':=by
 obtain⟨xt,xi⟩:=x
 unfold maxLen at hl
 have hbL:Below w.heap.size w (w.alloc (.cells #[.string xt,.string xi] 24)):=(Below.refl _ _).alloc (Nat.le_refl _) _
 have z0:(w.alloc (.cells #[.string xt,.string xi] 24)).cell? ⟨w.heap.size,0,none⟩=some (.string xt):=by simp
 have z1:(w.alloc (.cells #[.string xt,.string xi] 24)).cell? ⟨w.heap.size,1,none⟩=some (.string xi):=by simp
 have hu1:=hu.up hbL
 go_enter Tryz.func173,Tryz.ntmps173
 go_wp2_with fail
 generalize w.alloc (.cells #[.string xt,.string xi] 24)=W at *
 go_loopw [8] (fun i wr=>∃k n:Nat,k≤us.length∧i= .int .i64 k∧Hid ((⟨xt,xi⟩:Ui)∉us.take k)∧wr=W.drewN n) (fun i _=>us.length-(intOf i).toNat)
 case atStart=>exact⟨0,0,Nat.zero_le _,rfl,by simp[Hid],rfl⟩
 case round=>
  obtain⟨k,n,hk,rfl,HA,rfl⟩:=hrel
  by_cases hlt:k<us.length
  · have i1:(k:Int)<(us.length:Int):=by omega
    obtain⟨b,off,rfl,hbw,y0,y1⟩:=hu1.at hlt
    have HN:Hid (us[k]≠(⟨xt,xi⟩:Ui)→(⟨xt,xi⟩:Ui)∉us.take (k+1)):=mem_next hlt HA.out
    have HM:Hid (us[k]∈us):=List.getElem_mem hlt
    clear hu hu1
    generalize us[k]=y at *
    obtain⟨yt,yi⟩:=y
    dsimp only at y0 y1
    by_cases ht:xt=yt
    · by_cases hi:xi=yi
      · subst ht hi
        go_wp2
        go_quiet (fail)
        go_wp2
        go_ret
        exact⟨_,rfl,⟨fun _=>HM.out,fun _=>by omega⟩,qbn (qbn hbL _) _⟩
      · subst ht
        have h1:=tl_ne hi
        have h2:Hid (⟨xt,xi⟩∉us.take (k+1)):=HN.out (fun e=>hi (by cases e;rfl))
        clear HN HM HA
        go_wp2
        go_quiet (fail)
        go_wp2
        go_roundw
        case rel=>exact⟨k+1,_,by omega,by go_num,h2,rfl⟩
        case measure=>simp[intOf];omega
    · have h1:=tl_ne ht
      have h2:Hid (⟨xt,xi⟩∉us.take (k+1)):=HN.out (fun e=>ht (by cases e;rfl))
      clear HN HM HA
      go_wp2
      go_quiet (fail)
      go_wp2
      go_roundw
      case rel=>exact⟨k+1,_,by omega,by go_num,h2,rfl⟩
      case measure=>simp[intOf];omega
  · have i1:¬(k:Int)<(us.length:Int):=by omega
    have HA2:Hid ((⟨xt,xi⟩:Ui)∉us):=by
     have:=HA.out
     rw[List.take_of_length_le (by omega)]at this
     exact this
    go_wp2
    go_ret
    exact⟨_,rfl,⟨fun h=>absurd h (by decide),fun h=>absurd h HA2.out⟩,qbn hbL _⟩
theorem containsU_any (us:List Ui)(n:Nat)(hn:us.length=n)(p:Option Addr)(c:Nat)(x:Ui)(w:World)(hu:UL w p us)(hl:us.length≤maxLen):
 Calls Tryz.prog 136 #[.slice p n c,.agg #[.string x.t,.string x.i]] w fun e w'=>e= .returned (.bool (decide (x∈us)))∧Below w.heap.size w w':=by
 subst hn
 have H1:=fun w1 (hb:Below w.heap.size w w1)=>indexU_any us p c x w1 (hu.up hb) hl
 obtain⟨xt,xi⟩:=x
 have hbL:Below w.heap.size w (w.alloc (.cells #[.string xt,.string xi] 24)):=(Below.refl _ _).alloc (Nat.le_refl _) _
 go_enter Tryz.func136,Tryz.ntmps136
 go_wp2_with fail
 refine(H1 _ hbL).mono ?_
 rintro e w1 ⟨k,rfl,hk,hb1⟩
 have HD:Hid (decide (0≤k)=decide ((⟨xt,xi⟩:Ui)∈us)):=by show _=_;rw[decide_eq_decide];exact hk
 clear hk H1
 go_wp2
 go_ret
 exact⟨by rw[←HD.out];rfl,qbt hbL hb1⟩
def AsksU (w:World)(fv:Value)(p:Ui→Bool):Prop:=
 ∃g lb,fv= .func (.func g) #[] lb∧(∀args w,(callFunc g args).run Tryz.prog w= .ok (.enter g args) w)∧
  ∀(W:World) (u:Ui),Below w.heap.size w W→Calls Tryz.prog g (#[.agg #[.string u.t,.string u.i]]++lb) W fun e w'=>e= .returned (.bool (p u))∧Below W.heap.size W w'
theorem anyU_next {vs:List Ui}{k:Nat}(h:k<vs.length)(p:Ui→Bool):(vs.take (k+1)).any p=((vs.take k).any p || p vs[k]):=by
 rw[List.take_succ_eq_append_getElem h,List.any_append];simp
theorem anyU_hit {vs:List Ui}{k:Nat}(h:k<vs.length){p:Ui→Bool}(hp:p vs[k]=true):vs.any p=true:=
 List.any_eq_true.2 ⟨_,List.getElem_mem h,hp⟩
theorem indexFuncU_any (vs:List Ui)(p:Option Addr)(c:Nat)(fv:Value)(ask:Ui→Bool)(w:World)(hv:UL w p vs)(hl:vs.length≤maxLen)(hf:AsksU w fv ask):
 Calls Tryz.prog 172 #[.slice p vs.length c,fv] w fun e w'=>(∃n:Int,e= .returned (.int .i64 n)∧decide (0≤n)=vs.any ask)∧Below w.heap.size w w':=by
 unfold maxLen at hl
 obtain⟨g,lb,rfl,eg,hp⟩:=hf
 have HP:Hid (∀(W:World) (u:Ui),Below w.heap.size w W→Calls Tryz.prog g (#[.agg #[.string u.t,.string u.i]]++lb) W fun e w'=>e= .returned (.bool (ask u))∧Below W.heap.size W w'):=hp
 clear hp
 go_enter Tryz.func172,Tryz.ntmps172
 go_wp2
 go_loopw [8] (fun i wr=>∃k:Nat,k≤vs.length∧i= .int .i64 k∧Hid ((vs.take k).any ask=false)∧Below w.heap.size w wr) (fun i _=>vs.length-(intOf i).toNat)
 case atStart=>exact⟨0,Nat.zero_le _,rfl,by simp[Hid],Below.refl _ _⟩
 case round=>
  obtain⟨k,hk,rfl,HA,hb⟩:=hrel
  by_cases hlt:k<vs.length
  · have i1:(k:Int)<(vs.length:Int):=by omega
    obtain⟨b,off,rfl,hbw,y0,y1⟩:=(hv.up hb).at hlt
    have HN:Hid (_=_):=anyU_next hlt ask
    have HH:Hid (_→_):=anyU_hit hlt (p:=ask)
    have H1:=HP.out wr vs[k] hb
    generalize vs[k]=v at *
    cases ha:ask v
    · rw[ha]at H1
      have HA2:Hid ((vs.take (k+1)).any ask=false):=by show _=_;rw[HN.out,HA.out,ha];rfl
      clear HN HH HA
      go_wp2_with (go_at_fn g;refine H1.mono ?_;rintro e w1 ⟨rfl,hb1⟩)
      go_roundw
      case rel=>exact⟨k+1,by omega,by go_num,HA2,hb.trans (hb1.mono hb.size)⟩
      case measure=>simp[intOf];omega
    · rw[ha]at H1
      have HA2:Hid (vs.any ask=true):=HH.out ha
      clear HN HH HA
      go_wp2_with (go_at_fn g;refine H1.mono ?_;rintro e w1 ⟨rfl,hb1⟩)
      go_ret
      exact⟨⟨_,rfl,by rw[HA2.out];simp⟩,hb.trans (hb1.mono hb.size)⟩
  · have i1:¬(k:Int)<(vs.length:Int):=by omega
    have HA2:Hid (vs.any ask=false):=by
     have:=HA.out
     rw[List.take_of_length_le (by omega)]at this
     exact this
    go_wp2
    go_ret
    exact⟨⟨_,rfl,by rw[HA2.out];decide⟩,hb⟩
theorem containsFuncU_any (vs:List Ui)(n:Nat)(hn:vs.length=n)(p:Option Addr)(c:Nat)(fv:Value)(ask:Ui→Bool)(w:World)(hv:UL w p vs)(hl:vs.length≤maxLen)(hf:AsksU w fv ask):
 Calls Tryz.prog 134 #[.slice p n c,fv] w fun e w'=>e= .returned (.bool (vs.any ask))∧Below w.heap.size w w':=by
 subst hn
 have H1:=indexFuncU_any vs p c fv ask w hv hl hf
 clear hf hv
 go_enter Tryz.func134,Tryz.ntmps134
 go_wp2_with fail
 refine H1.mono ?_
 rintro e w1 ⟨⟨n,rfl,hn⟩,hb⟩
 go_wp2
 go_ret
 exact⟨by rw[←hn];rfl,hb⟩
theorem in_asks (A B:Nat)(u:Ui)(p:Option Addr)(us:List Ui)(c:Nat)(w:World)(hA:A<w.heap.size)(hB:B<w.heap.size)(a0:w.cell? ⟨A,0,none⟩=some (.string u.t))(a1:w.cell? ⟨A,1,none⟩=some (.string u.i))(hc:w.cell? ⟨B,0,none⟩=some (.slice p us.length c))(hv:UL w p us)(hl:us.length≤maxLen):
 AsksU w (.func (.func 135) #[] #[.pointer (some ⟨A,0,none⟩),.pointer (some ⟨B,0,none⟩)]) (fun o=>decide (o=u∨o∈us)):=by
 refine⟨_,_,rfl,enters_of Tryz.func135 (by kernel_rfl) rfl,fun W o hb=>?_⟩
 have hbL:Below W.heap.size W (W.alloc (.cells #[.string o.t,.string o.i] 24)):=(Below.refl _ _).alloc (Nat.le_refl _) _
 have hA':A<W.heap.size:=Nat.lt_of_lt_of_le hA hb.size
 have hB':B<W.heap.size:=Nat.lt_of_lt_of_le hB hb.size
 have a0':=(hbL.cell (p:=⟨A,0,none⟩) hA').trans ((hb.cell (p:=⟨A,0,none⟩) hA).trans a0)
 have a1':=(hbL.cell (p:=⟨A,1,none⟩) hA').trans ((hb.cell (p:=⟨A,1,none⟩) hA).trans a1)
 have c0':=(hbL.cell (p:=⟨B,0,none⟩) hB').trans ((hb.cell (p:=⟨B,0,none⟩) hB).trans hc)
 have H1:=fun V (hV:Below W.heap.size W V)=>containsU_any us _ rfl p c o V ((hv.up hb).up hV) hl
 clear a0 a1 hc hv
 obtain⟨ot,oi⟩:=o
 obtain⟨ut,ui⟩:=u
 dsimp only at *
 have z0:(W.alloc (.cells #[.string ot,.string oi] 24)).cell? ⟨W.heap.size,0,none⟩=some (.string ot):=by simp
 have z1:(W.alloc (.cells #[.string ot,.string oi] 24)).cell? ⟨W.heap.size,1,none⟩=some (.string oi):=by simp
 by_cases he:(⟨ot,oi⟩:Ui)=⟨ut,ui⟩
 · cases he
   go_enter Tryz.func135,Tryz.ntmps135
   go_wp2
   go_ret
   exact⟨rfl,hbL⟩
 · have HD:Hid (decide ((⟨ot,oi⟩:Ui)=⟨ut,ui⟩∨(⟨ot,oi⟩:Ui)∈us)=decide ((⟨ot,oi⟩:Ui)∈us)):=by
    show _=_
    rw[decide_eq_decide]
    exact⟨fun h=>h.resolve_left he,Or.inr⟩
   by_cases ht:ot=ut
   · have h1:¬oi.toList=ui.toList:=tl_ne (fun e=>he (by rw[ht,e]))
     subst ht
     go_enter Tryz.func135,Tryz.ntmps135
     go_wp2_with fail
     refine(H1 _ hbL).mono ?_
     rintro e w1 ⟨rfl,hb1⟩
     go_wp2
     go_ret
     exact⟨by rw[HD.out];rfl,qbt hbL hb1⟩
   · have h1:=tl_ne ht
     go_enter Tryz.func135,Tryz.ntmps135
     go_wp2_with fail
     refine(H1 _ hbL).mono ?_
     rintro e w1 ⟨rfl,hb1⟩
     go_wp2
     go_ret
     exact⟨by rw[HD.out];rfl,qbt hbL hb1⟩
def URet (us:List Ui)(e:Ending)(w':World):Prop:=∃q c,e= .returned (.slice q us.length c)∧UL w' q us∧us.length≤c∧c≤maxLen
theorem uidsOf_one (a:List Nd)(n:Nat)(q:Option Addr)(c:Nat)(w:World)(h:VArg w a n q c)(h5:opV a≠5)(h4:opV a=4):
 Calls Tryz.prog 102 #[.slice q n c] w fun e w'=>URet [uidV a] e w'∧Below w.heap.size w w':=by
 have HU:=uidOf_ok w a n q c h h4
 obtain⟨x,r,b,off,rfl,rfl,hb,c0,c1,c2,c3,_,h1⟩:=h.head
 have hx5:x.op≠5:=h5
 have e1:(x.op != 5)=true:=by simpa using hx5
 clear hx5
 have i1:(0:Int)<(n:Int):=by omega
 clear h5 h4 h
 generalize uidV (x::r)=u at *
 obtain⟨ut,ui⟩:=u
 go_enter Tryz.func102,Tryz.ntmps102
 go_wp2_with fail
 refine HU.mono ?_
 rintro e w1 ⟨rfl,hb1⟩
 go_wp2
 go_ret
 refine⟨⟨_,_,rfl,.inr ⟨w1.heap.size,0,rfl,by simp,fun i y hy=>?_⟩,Nat.le_refl _,by unfold maxLen;decide⟩,qba hb1 _⟩
 match i,hy with
 | 0,hy=>simp at hy;subst hy;simp
theorem uidsOf_bad (a:List Nd)(n:Nat)(q:Option Addr)(c:Nat)(w:World)(h:VArg w a n q c)(h5:opV a≠5)(h4:opV a≠4):
 Calls Tryz.prog 102 #[.slice q n c] w fun e w'=>e= .panicked (thrownE 2)∧Below w.heap.size w w':=by
 have HU:=uidOf_bad w a n q c h h4
 obtain⟨x,r,b,off,rfl,rfl,hb,c0,c1,c2,c3,_,h1⟩:=h.head
 have hx5:x.op≠5:=h5
 have e1:(x.op != 5)=true:=by simpa using hx5
 clear hx5
 have i1:(0:Int)<(n:Int):=by omega
 clear h5 h4 h
 go_enter Tryz.func102,Tryz.ntmps102
 go_wp2_with fail
 refine HU.mono ?_
 rintro e w1 ⟨rfl,hb1⟩
 exact⟨rfl,rfl,hb1⟩
def UidsEnd (a:List Nd)(e:Ending)(w':World):Prop:=match uidsE a with | some us=>URet us e w' | none=>e= .panicked (thrownE 2)
theorem uidsE_one {a:List Nd}(h5:opV a≠5)(h4:opV a=4):uidsE a=some [uidV a]:=by unfold uidsE;rw[if_neg h5,if_pos h4]
theorem uidsE_bad {a:List Nd}(h5:opV a≠5)(h4:opV a≠4):uidsE a=none:=by unfold uidsE;rw[if_neg h5,if_neg h4]
theorem setR_parts {a:List Nd}(h:IsV a)(h5:opV a=5):(∀v∈setR a,IsV v)∧a=setN (setR a)∧(setR a).length≤200:=by
 obtain⟨h1,h2⟩:=setR_spec h.val h5
 refine⟨fun v hv=>⟨h1.vals v hv,fun x hx=>h.num x ?_⟩,h2,h1.len⟩
 rw[h2]
 exact List.mem_cons_of_mem _ (List.mem_flatten.2 ⟨v,hv,hx⟩)
theorem eparts_set (a:List Nd)(n:Nat)(q:Option Addr)(c:Nat)(w:World)(h:VArg w a n q c)(h5:opV a=5):
 Calls Tryz.prog 138 #[.slice q n c] w fun e w'=>(∃q c',e= .returned (.tuple #[.slice q (setR a).length c',.nilIface])∧LL w' q (setR a)∧(setR a).length≤c'∧c'≤maxLen)∧Below w.heap.size w w':=by
 obtain⟨h1,h2,h3⟩:=setR_parts h.is h5
 obtain⟨b,off,rfl,_⟩:∃b off,q=some ⟨b,off,none⟩∧True:=by
  obtain⟨x,r,b,off,_,rfl,_⟩:=h.head
  exact⟨b,off,rfl,trivial⟩
 have hl:=h.len
 have hn:=h.nl
 have hv:=h.is.val
 have h4:=h.le
 have h6:=h.cm
 subst hl
 generalize setR a=l at *
 subst h2
 have hs:=values_segs ((setN l).length) l (fun v hv=>(h1 v hv).val) (fun v hv=>by have:=mem_flat hv;show v.length+1≤l.flatten.length+1;omega)
 have HP:=parts_ok _ _ _ l hs b off c w hn h4 h6 hv (.inl rfl)
 rw[values_strip (fun v hv=>(h1 v hv).val)]at HP
 exact HP
theorem UL.new {w:World}{u:Ui}:UL (w.alloc (.cells #[.string u.t,.string u.i] 24)) (some ⟨w.heap.size,0,none⟩) [u]:=by
 refine .inr ⟨w.heap.size,0,rfl,by simp,fun i y hy=>?_⟩
 match i,hy with
 | 0,hy=>simp at hy;subst hy;simp
theorem uidsOf_set (a:List Nd)(n:Nat)(q:Option Addr)(c:Nat)(w:World)(h:VArg w a n q c)(h5:opV a=5):
 Calls Tryz.prog 102 #[.slice q n c] w fun e w'=>UidsEnd a e w'∧Below w.heap.size w w':=by
 have HP:=eparts_set a n q c w h h5
 obtain⟨hp1,he2,hp3⟩:=setR_parts h.is h5
 clear he2
 have HE:Hid (uidsE a=if ∀u∈setR a,opV u=4 then some ((setR a).map uidV)else none):=by show _=_;unfold uidsE;rw[if_pos h5]
 obtain⟨x,r,b,off,rfl,rfl,hb,c0,c1,c2,c3,_,h1⟩:=h.head
 have hx5:x.op=5:=h5
 have e1:(x.op != 5)=false:=by simpa using hx5
 have i1:(0:Int)<(n:Int):=by omega
 generalize setR (x::r)=l at *
 clear h5 hx5 h
 go_enter Tryz.func102,Tryz.ntmps102
 go_wp2_with fail
 refine HP.mono ?_
 rintro e w1 ⟨⟨q1,c1',rfl,hll,hc1,hc2⟩,hb1⟩
 go_wp2_with fail
 refine(sureL_ok w1 q1 _ c1').mono ?_
 rintro e w2 ⟨rfl,rfl⟩
 go_wp2_with fail
 clear c0 c1 c2 c3 HP
 go_loopw [3,20] (fun v i wr=>∃k:Nat,k≤l.length∧i= .int .i64 k∧OU wr w2.heap.size v ((l.take k).map uidV)∧Hid (∀u∈l.take k,opV u=4)∧Below w2.heap.size w2 wr) (fun _ i _=>l.length-(intOf i).toNat)
 case atStart=>exact⟨0,Nat.zero_le _,rfl,OU.nil _ _,by simp[Hid],Below.refl _ _⟩
 case round=>
  obtain⟨k,hk,rfl,hown,HF,hbw⟩:=hrel
  by_cases hlt:k<l.length
  · have i2:(k:Int)<(l.length:Int):=by omega
    obtain⟨b2,o2,q2,c2,rfl,hb2,hc,hnl,hl1,hl2⟩:=(hll.up hbw).at hlt
    have hva:VArg wr l[k] l[k].length q2 c2:=⟨rfl,hnl,hl1,hl2,hp1 _ (List.getElem_mem hlt)⟩
    by_cases h4:opV l[k]=4
    · have HU:=uidOf_ok wr l[k] _ q2 c2 hva h4
      have HF2:Hid (∀u∈l.take (k+1),opV u=4):=by
       intro u hu
       rw[List.take_succ_eq_append_getElem hlt]at hu
       rcases List.mem_append.1 hu with hu | hu
       · exact HF.out u hu
       · simp only[List.mem_singleton]at hu;rw[hu];exact h4
      have HT:Hid ((l.take (k+1)).map uidV=(l.take k).map uidV++[uidV l[k]]):=by show _=_;rw[List.take_succ_eq_append_getElem hlt,List.map_append];rfl
      clear h4 HF hva hnl
      generalize l[k]=v at *
      generalize uidV v=u at *
      obtain⟨ut,ui⟩:=u
      go_wp2_with (first
       | (go_at_call 99;refine HU.mono ?_;rintro e w3 ⟨rfl,hb3⟩;have hw3:=hbw.trans (hb3.mono hbw.size);have ho3:=hown.below hb3;have hbL:Below w3.heap.size w3 (w3.alloc (.cells #[.string ut,.string ui] 24)):=(Below.refl _ _).alloc (Nat.le_refl _) _;have ho4:=ho3.below hbL;have hs4:w2.heap.size≤(w3.alloc (.cells #[.string ut,.string ui] 24)).heap.size:=Nat.le_trans hw3.size hbL.size)
       | (at_builtin;refine append_uid _ rfl _ _ rfl w2.heap.size _ _ rfl ho4 [⟨ut,ui⟩] 1 rfl w3.heap.size 0 1 UL.new rfl (by simp;omega) hs4 ?_;intro v' w5 ho5 hg5 hb5))
      go_roundw
      case rel=>exact⟨k+1,by omega,by go_num,by rw[HT.out];exact ho5,HF2,(hw3.trans (hbL.mono hw3.size)).trans hb5⟩
      case measure=>simp[intOf];omega
    · have HU:=uidOf_bad wr l[k] _ q2 c2 hva h4
      have HN:Hid (uidsE (x::r)=none):=by
       show _=_
       rw[HE.out,if_neg (fun h=>h4 (h _ (List.getElem_mem hlt)))]
      clear h4 HF hva hnl
      go_wp2_with (go_at_call 99;refine HU.mono ?_;rintro e w3 ⟨rfl,hb3⟩)
      refine⟨rfl,?_,qbt hb1 (hbw.trans (hb3.mono hbw.size))⟩
      unfold UidsEnd
      rw[HN.out]
  · have i2:¬(k:Int)<(l.length:Int):=by omega
    obtain rfl:k=l.length:=by omega
    rw[List.take_length]at hown HF
    obtain⟨q3,c3,rfl,hu3,hc3,hc4,_⟩:=hown.slice
    have HN:Hid (uidsE (x::r)=some (l.map uidV)):=by show _=_;rw[HE.out,if_pos HF.out]
    go_wp2
    go_ret
    refine⟨?_,qbt hb1 hbw⟩
    unfold UidsEnd
    rw[HN.out]
    exact⟨q3,c3,by rw[List.length_map];rfl,hu3,hc3,hc4⟩
theorem uidsOf_any (a:List Nd)(n:Nat)(q:Option Addr)(c:Nat)(w:World)(h:VArg w a n q c):
 Calls Tryz.prog 102 #[.slice q n c] w fun e w'=>UidsEnd a e w'∧Below w.heap.size w w':=by
 by_cases h5:opV a=5
 · exact uidsOf_set a n q c w h h5
 · by_cases h4:opV a=4
   · refine(uidsOf_one a n q c w h h5 h4).mono ?_
     rintro e w' ⟨h1,h2⟩
     exact⟨by unfold UidsEnd;rw[uidsE_one h5 h4];exact h1,h2⟩
   · refine(uidsOf_bad a n q c w h h5 h4).mono ?_
     rintro e w' ⟨h1,h2⟩
     exact⟨by unfold UidsEnd;rw[uidsE_bad h5 h4];exact h1,h2⟩
end Go.Proofs.YtlnhaajjoplafaaGreatDoor
