import Derived.Test.YtgbljlabifpmgaaGreatDoorChecked
import Derived.Test.YtgbljlabifpmgaaGreatDoorP14
import Derived.WalkKit
import Derived.WalkLawsBesides
import Derived.Lib.Bytealg
import Derived.Deep.QuietTactic
import Derived.BigQuiet
import Derived.StillTailTactics
import Derived.Below
set_option linter.unusedVariables false
set_option maxHeartbeats 12000000
namespace Go.Proofs.YtgbljlabifpmgaaGreatDoor
open Go.RowKit
def Up (w w':World):Prop:=Below w.heap.size w w'∧w.drawn≤w'.drawn
theorem Up.refl (w:World):Up w w:=⟨Below.refl _ _,Nat.le_refl _⟩
theorem Up.trans {a b c:World}(h:Up a b)(k:Up b c):Up a c:=⟨h.1.trans (k.1.mono h.1.size),Nat.le_trans h.2 k.2⟩
theorem Up.alloc (w:World)(o:Obj):Up w (w.alloc o):=⟨(Below.refl _ _).alloc (Nat.le_refl _) _,Nat.le_refl _⟩
theorem Up.drew (w:World):Up w w.drew:=⟨(Below.refl _ _).drew,Nat.le_succ _⟩
def Nd.val (x:Nd):Value:=.agg #[.int .i64 x.op,.int .i64 x.n,.string x.s,.string x.t]
def Nd.wf (x:Nd):Prop:=x.s.size≤maxLen∧x.t.size≤maxLen∧x.n≤9223372036854775807
theorem ret_i {k:IntKind}{a b:Int}(h:a=b):Ending.returned (.int k a)= .returned (.int k b):=by rw[h]
def NL (w:World)(p:Option Addr)(L:List Nd):Prop:=
 L=[]∨∃b off,p=some ⟨b,off,none⟩∧b<w.heap.size∧∀i x,L[i]? =some x→
  w.cell? ⟨b,off+i*4,none⟩=some (.int .i64 x.op)∧w.cell? ⟨b,off+i*4+1,none⟩=some (.int .i64 x.n)∧
  w.cell? ⟨b,off+i*4+2,none⟩=some (.string x.s)∧w.cell? ⟨b,off+i*4+3,none⟩=some (.string x.t)∧x.wf
theorem NL.up {w w':World}{p:Option Addr}{L:List Nd}(h:NL w p L)(k:Below w.heap.size w w'):NL w' p L:=by
 rcases h with h | ⟨b,off,h1,h2,h3⟩
 · exact .inl h
 · refine .inr ⟨b,off,h1,Nat.lt_of_lt_of_le h2 k.size,fun i x hx=>?_⟩
   have q:∀o,w'.cell? ⟨b,o,none⟩=w.cell? ⟨b,o,none⟩:=fun o=>k.cell (p:=⟨b,o,none⟩) h2
   simp only[q]
   exact h3 i x hx
theorem NL.at {w:World}{p:Option Addr}{L:List Nd}(h:NL w p L){i:Nat}(hi:i<L.length):∃b off,p=some ⟨b,off,none⟩∧b<w.heap.size∧
 w.cell? ⟨b,off+i*4,none⟩=some (.int .i64 L[i].op)∧w.cell? ⟨b,off+i*4+1,none⟩=some (.int .i64 L[i].n)∧
 w.cell? ⟨b,off+i*4+2,none⟩=some (.string L[i].s)∧w.cell? ⟨b,off+i*4+3,none⟩=some (.string L[i].t)∧L[i].wf:=by
 rcases h with rfl | ⟨b,off,h1,h2,h3⟩
 · simp at hi
 · exact⟨b,off,h1,h2,h3 i _ (List.getElem?_eq_getElem hi)⟩
theorem compareStr_any (a b:ByteArray)(w:World):
 Calls Tryz.prog 125 #[.string a,.string b] w fun e w'=>e= .returned (.int .i64 (cmpB a b))∧w'=w:=by
 have hx:= @run_callFunc_extern Tryz.prog 126 _ Extern.BytealgCompare.compare Tryz.func126 (by kernel_rfl) (by kernel_rfl) (by kernel_rfl) (by kernel_rfl)
 have hy:= @Lib.run_compareString Tryz.prog
 go_enter Tryz.func125,Tryz.ntmps125
 go_wp2
 go_ret
 exact⟨rfl,rfl⟩
theorem strCompare_any (a b:ByteArray)(w:World):
 Calls Tryz.prog 121 #[.string a,.string b] w fun e w'=>e= .returned (.int .i64 (cmpB a b))∧w'=w:=by
 go_enter Tryz.func121,Tryz.ntmps121
 go_wp2_with (go_at_call 125;refine(compareStr_any _ _ _).mono ?_;rintro e w' ⟨rfl,rfl⟩)
 go_ret
 exact⟨rfl,rfl⟩
theorem isNaN_any (a:Int)(w:World):
 Calls Tryz.prog 124 #[.int .i64 a] w fun e w'=>e= .returned (.bool false)∧w'=w:=by
 go_enter Tryz.func124,Tryz.ntmps124
 go_wp2
 go_ret
 exact⟨by simp,rfl⟩
theorem cmpInt_any (a b:Int)(w:World):
 Calls Tryz.prog 120 #[.int .i64 a,.int .i64 b] w fun e w'=>e= .returned (.int .i64 (cmpI a b))∧w'=w:=by
 by_cases h:a<b
 · go_enter Tryz.func120,Tryz.ntmps120
   go_wp2_with (go_at_call 124;refine(isNaN_any _ _).mono ?_;rintro e w' ⟨rfl,rfl⟩)
   go_ret
   exact⟨ret_i (by unfold cmpI;split<;>omega),rfl⟩
 · by_cases k:b<a
   · go_enter Tryz.func120,Tryz.ntmps120
     go_wp2_with (go_at_call 124;refine(isNaN_any _ _).mono ?_;rintro e w' ⟨rfl,rfl⟩)
     go_ret
     exact⟨ret_i (by unfold cmpI;repeat' split<;>omega),rfl⟩
   · go_enter Tryz.func120,Tryz.ntmps120
     go_wp2_with (go_at_call 124;refine(isNaN_any _ _).mono ?_;rintro e w' ⟨rfl,rfl⟩)
     go_ret
     exact⟨ret_i (by unfold cmpI;repeat' split<;>omega),rfl⟩
theorem orI_drop (l:List Int)(k:Nat)(x:Int)(h:l[k]? =some x):orI (l.drop k)=if x=0 then orI (l.drop (k+1))else x:=by
 obtain⟨hk,rfl⟩:=List.getElem?_eq_some_iff.1 h
 rw[List.drop_eq_getElem_cons hk]
 rfl
theorem cmpOr_any (b c:Nat)(l:List Int)(w:World)(hn:l.length=4)
 (hc:∀(i:Nat) (x:Int),l[i]? =some x→w.cell? ⟨b,i,none⟩=some (.int .i64 x)):
 Calls Tryz.prog 119 #[.slice (some ⟨b,0,none⟩) 4 c] w fun e w'=>e= .returned (.int .i64 (orI l))∧w'=w:=by
 have HC:Hid (∀(i:Nat) (x:Int),l[i]? =some x→w.cell? ⟨b,i,none⟩=some (.int .i64 x)):=hc
 clear hc
 go_enter Tryz.func119,Tryz.ntmps119
 go_wp2
 go_loop [8] (fun i=>∃k:Nat,k≤4∧i= .int .i64 k∧Hid (orI (l.drop k)=orI l)) (fun i=>4-(intOf i).toNat)
 case atStart=>exact⟨0,by omega,rfl,rfl⟩
 case round=>
  obtain⟨k,hk,rfl,HD⟩:=hrel
  by_cases hlt:k<4
  · obtain⟨x,hx⟩:∃x,l[k]? =some x:=⟨_,List.getElem?_eq_getElem (by omega)⟩
    have HS:Hid (_=_):=orI_drop l k x hx
    have hcx:=HC.out k x hx
    clear hx
    have i1:(k:Int)<4:=by omega
    by_cases hz:x=0
    · subst hz
      go_wp2
      go_round
      case rel=>exact⟨k+1,by omega,by go_num,by show _=_;rw[←HD.out,HS.out];simp⟩
      case measure=>simp[intOf];omega
    · have hz':(x != 0)=true:=by simpa using hz
      go_wp2
      go_ret
      exact⟨ret_i (by rw[←HD.out,HS.out,if_neg hz]),rfl⟩
  · obtain rfl:k=4:=by omega
    have HZ:Hid (0=orI l):=by
     have:=HD.out
     rw[List.drop_of_length_le (by omega)]at this
     exact this
    clear HD
    go_wp2
    go_ret
    exact⟨ret_i HZ.out,rfl⟩
set_option maxRecDepth 100000 in
theorem orderNd_any (x y:Nd)(w:World):
 Calls Tryz.prog 113 #[x.val,y.val] w fun e w'=>e= .returned (.int .i64 (ndC x y))∧Up w w':=by
 unfold Nd.val
 go_enter Tryz.func113,Tryz.ntmps113
 go_wp2
 generalize hwq:(w.alloc (.cells #[.int .i64 x.op,.int .i64 x.n,.string x.s,.string x.t] 29)).alloc (.cells #[.int .i64 y.op,.int .i64 y.n,.string y.s,.string y.t] 29)=wq
 refine wp_region_still_tail 20 (by kernel_rfl) (by kernel_rfl) ?_
 change wpStill _ _ wq.drew (fun a'=>wpList _ _ _ _ a' wq.drew) _ _
 have hup:Up w wq.drew:=by subst hwq;exact((Up.alloc _ _).trans (Up.alloc _ _)).trans (Up.drew _)
 have hx:∀i,i<4→wq.drew.cell? ⟨w.heap.size,i,none⟩=(#[.int .i64 x.op,.int .i64 x.n,.string x.s,.string x.t]:Array Value)[i]? :=by
  subst hwq;intro i hi;simp[go_sem]
 have hy:∀i,i<4→wq.drew.cell? ⟨w.heap.size+1,i,none⟩=(#[.int .i64 y.op,.int .i64 y.n,.string y.s,.string y.t]:Array Value)[i]? :=by
  subst hwq;intro i hi;simp[go_sem]
 generalize wq.drew=wd at hup hx hy ⊢
 have x0:=hx 0 (by omega)
 have x1:=hx 1 (by omega)
 have x2:=hx 2 (by omega)
 have x3:=hx 3 (by omega)
 have y0:=hy 0 (by omega)
 have y1:=hy 1 (by omega)
 have y2:=hy 2 (by omega)
 have y3:=hy 3 (by omega)
 clear hx hy hwq
 simp at x0 x1 x2 x3 y0 y1 y2 y3
 simp only[List.take_succ_cons,List.take_zero,List.drop_succ_cons,List.drop_zero]
 repeat still_step
 still_call (cmpInt_any _ _ _)
 repeat still_step
 still_call (cmpInt_any _ _ _)
 repeat still_step
 still_call (strCompare_any _ _ _)
 repeat still_step
 still_call (strCompare_any _ _ _)
 refine wpStill_nil ?_
 go_wp2_with fail
 refine(cmpOr_any _ _ [cmpI x.op y.op,cmpI x.n y.n,cmpB x.s y.s,cmpB x.t y.t] _ rfl ?_).mono ?_
 · intro i z hz
   rcases i with _ | _ | _ | _ | i<;>simp at hz<;>subst hz<;>simp[go_sem]
 rintro e w1 ⟨rfl,rfl⟩
 go_wp2
 go_ret
 exact⟨rfl,hup.trans (Up.alloc _ _)⟩
theorem lsC_step (a b:List Nd)(k:Nat)(x y:Nd)(hx:a[k]? =some x)(hy:b[k]? =some y):lsC (a.drop k) (b.drop k)=if ndC x y=0 then lsC (a.drop (k+1)) (b.drop (k+1))else ndC x y:=by
 obtain⟨h1,rfl⟩:=List.getElem?_eq_some_iff.1 hx
 obtain⟨h2,rfl⟩:=List.getElem?_eq_some_iff.1 hy
 rw[List.drop_eq_getElem_cons h1,List.drop_eq_getElem_cons h2]
 rfl
theorem lsC_more (a b:List Nd)(k:Nat)(hx:k<a.length)(hy:b.length≤k):lsC (a.drop k) (b.drop k)=1:=by
 rw[List.drop_eq_getElem_cons hx,List.drop_of_length_le hy]
 rfl
theorem lsC_less (a b:List Nd)(k:Nat)(hx:a.length≤k)(hy:k<b.length):lsC (a.drop k) (b.drop k)= -1:=by
 rw[List.drop_eq_getElem_cons hy,List.drop_of_length_le hx]
 rfl
theorem lsC_done (a b:List Nd)(k:Nat)(hx:a.length≤k)(hy:b.length≤k):lsC (a.drop k) (b.drop k)=0:=by
 rw[List.drop_of_length_le hx,List.drop_of_length_le hy]
 rfl
theorem compareFunc_any (a b:List Nd)(p q:Option Addr)(c1 c2:Nat)(w:World)(ha:NL w p a)(hb:NL w q b)(la:a.length≤maxLen)(lb:b.length≤maxLen):
 Calls Tryz.prog 112 #[.slice p a.length c1,.slice q b.length c2,.func (.func 113) #[] #[]] w fun e w'=>e= .returned (.int .i64 (lsC a b))∧Up w w':=by
 unfold maxLen at la lb
 go_enter Tryz.func112,Tryz.ntmps112
 go_wp2
 go_loopw [13] (fun i wr=>∃k:Nat,k≤a.length∧k≤b.length∧i= .int .i64 k∧Up w wr∧Hid (lsC (a.drop k) (b.drop k)=lsC a b)) (fun i _=>a.length-(intOf i).toNat)
 case atStart=>exact⟨0,Nat.zero_le _,Nat.zero_le _,rfl,Up.refl _,rfl⟩
 case round=>
  obtain⟨k,hk,hk2,rfl,hup,HD⟩:=hrel
  have HA:=ha.up hup.1
  have HB:=hb.up hup.1
  by_cases hlt:k<a.length
  · obtain⟨x,hx⟩:∃x,a[k]? =some x:=⟨_,List.getElem?_eq_getElem hlt⟩
    obtain⟨b1,o1,rfl,hb1,x0,x1,x2,x3,xw⟩:=HA.at hlt
    have i1:(k:Int)<(a.length:Int):=by omega
    by_cases hlt2:k<b.length
    · obtain⟨y,hy⟩:∃y,b[k]? =some y:=⟨_,List.getElem?_eq_getElem hlt2⟩
      obtain⟨b2,o2,rfl,hb2,y0,y1,y2,y3,yw⟩:=HB.at hlt2
      have i2:(k:Int)<(b.length:Int):=by omega
      have HS:Hid (_=_):=lsC_step a b k x y hx hy
      obtain rfl:x=a[k]:=by rw[List.getElem?_eq_getElem hlt]at hx;exact(Option.some.inj hx).symm
      obtain rfl:y=b[k]:=by rw[List.getElem?_eq_getElem hlt2]at hy;exact(Option.some.inj hy).symm
      clear hx hy
      generalize a[k]=x at *
      generalize b[k]=y at *
      go_wp2_with fail
      refine(orderNd_any x y _).mono ?_
      rintro e w1 ⟨rfl,hu1⟩
      have hu2:Up w w1:=(hup.trans ((Up.alloc _ _).trans (Up.alloc _ _))).trans hu1
      clear hu1 x0 x1 x2 x3 y0 y1 y2 y3
      generalize ndC x y=z at *
      cases hz:(z != 0)
      · have hz':z=0:=by simpa using hz
        subst hz'
        go_wp2
        go_roundw
        case rel=>exact⟨k+1,by omega,by omega,by go_num,hu2,by show _=_;rw[←HD.out,HS.out];simp⟩
        case measure=>simp[intOf];omega
      · go_wp2
        go_ret
        exact⟨ret_i (by rw[←HD.out,HS.out,if_neg (by simpa using hz)]),hu2⟩
    · have HS:Hid (_=_):=lsC_more a b k hlt (by omega)
      have i2:(b.length:Int)≤(k:Int):=by omega
      clear hx
      generalize a[k]=x at *
      go_wp2
      go_ret
      exact⟨ret_i (by rw[←HD.out,HS.out]),hup.trans (Up.alloc _ _)⟩
  · have i1:¬(k:Int)<(a.length:Int):=by omega
    by_cases hlt2:k<b.length
    · have HS:Hid (_=_):=lsC_less a b k (by omega) hlt2
      have i2:(a.length:Int)<(b.length:Int):=by omega
      go_wp2
      go_ret
      exact⟨ret_i (by rw[←HD.out,HS.out]),hup⟩
    · have HS:Hid (_=_):=lsC_done a b k (by omega) (by omega)
      have i2:¬(a.length:Int)<(b.length:Int):=by omega
      go_wp2
      go_ret
      exact⟨ret_i (by rw[←HD.out,HS.out]),hup⟩
theorem order_any (a b:List Nd)(p q:Option Addr)(c1 c2:Nat)(w:World)(ha:NL w p a)(hb:NL w q b)(la:a.length≤maxLen)(lb:b.length≤maxLen):
 Calls Tryz.prog 107 #[.slice p a.length c1,.slice q b.length c2] w fun e w'=>e= .returned (.int .i64 (lsC a b))∧Up w w':=by
 go_enter Tryz.func107,Tryz.ntmps107
 go_wp2_with fail
 refine(compareFunc_any a b p q c1 c2 _ ha hb la lb).mono ?_
 rintro e w1 ⟨rfl,hu⟩
 go_wp2
 go_ret
 exact⟨rfl,hu⟩
theorem NL.tail {w:World}{b off:Nat}{x:Nd}{r:List Nd}(h:NL w (some ⟨b,off,none⟩) (x::r)):NL w (some ⟨b,off+4,none⟩) r:=by
 rcases h with h | ⟨b',off',h1,h2,h3⟩
 · cases h
 · cases h1
   refine .inr ⟨_,_,rfl,h2,fun i y hy=>?_⟩
   have:=h3 (i+1) y (by simpa using hy)
   rw[show off+(i+1)*4=off+4+i*4 by omega]at this
   exact this
theorem NL.take {w:World}{p:Option Addr}{L:List Nd}(h:NL w p L)(n:Nat):NL w p (L.take n):=by
 rcases h with rfl | ⟨b',off',h1,h2,h3⟩
 · exact .inl (by simp)
 · refine .inr ⟨_,_,h1,h2,fun i y hy=>h3 i y ?_⟩
   rw[List.getElem?_take]at hy
   split at hy
   · exact hy
   · cases hy
theorem NL.head {w:World}{p:Option Addr}{x:Nd}{r:List Nd}(h:NL w p (x::r)):∃b off,p=some ⟨b,off,none⟩∧b<w.heap.size∧
 w.cell? ⟨b,off,none⟩=some (.int .i64 x.op)∧w.cell? ⟨b,off+1,none⟩=some (.int .i64 x.n)∧
 w.cell? ⟨b,off+2,none⟩=some (.string x.s)∧w.cell? ⟨b,off+3,none⟩=some (.string x.t)∧x.wf:=by
 rcases h with h | ⟨b,off,h1,h2,h3⟩
 · cases h
 · exact⟨b,off,h1,h2,by simpa using h3 0 x rfl⟩
theorem bytesLess_cb:∀(l m:List UInt8),Op.bytesLess l m=decide (Lib.compareBytes l m<0)
 | [],[]=>rfl
 | [],_::_=>rfl
 | _::_,[]=>rfl
 | a::x,b::y=>by
   rw[Op.bytesLess,cb_cons,bytesLess_cb x y]
   by_cases h:a<b
   · simp[h]
   · by_cases k:b<a
     · have:¬a=b:=fun e=>by subst e;exact absurd k h
       simp[h,k,this]
     · have:a=b:=UInt8.le_antisymm (UInt8.not_lt.1 k) (UInt8.not_lt.1 h)
       subst this
       simp
set_option maxRecDepth 100000 in
theorem refPrt_any (x:Nd)(w:World):
 Calls Tryz.prog 50 #[x.val] w fun e w'=>e= .returned (.int .i64 (prt x))∧Below w.heap.size w w':=by
 have HL:Hid (∀o,Below w.heap.size w (w.alloc o)):=fun o=>(Below.refl _ _).alloc (Nat.le_refl _) _
 generalize hp:prt x=pp
 have HP:Hid (_=_):=hp
 clear hp
 obtain⟨op,n,s,t⟩:=x
 unfold Nd.val
 by_cases h:1≤op∧op≤27
 · have hop:op=1∨op=2∨op=3∨op=4∨op=5∨op=6∨op=7∨op=8∨op=9∨op=10∨op=11∨op=12∨op=13∨op=14∨op=15∨op=16∨op=17∨op=18∨op=19∨op=20∨op=21∨op=22∨op=23∨op=24∨op=25∨op=26∨op=27:=by omega
   clear h
   rcases hop with rfl | rfl | rfl | rfl | rfl | rfl | rfl | rfl | rfl | rfl | rfl | rfl | rfl | rfl | rfl | rfl | rfl | rfl | rfl | rfl | rfl | rfl | rfl | rfl | rfl | rfl | rfl
   all_goals
    go_enter Tryz.func50,Tryz.ntmps50
    go_wp2
    go_ret
    exact⟨by rw[←HP.out];rfl,HL.out _⟩
 · have HM:Hid (pp= -1):=by
    rw[←HP.out]
    show prt _=_
    unfold prt
    simp only
    rw[if_neg (by omega),if_neg (by omega),if_neg (by omega),if_neg (by omega),if_neg (by omega)]
   clear HP
   have e:∀k:Int,1≤k→k≤27→(op == k)=false:=fun k h1 h2=>by simp;omega
   have e5:=e 5 (by omega) (by omega)
   have e6:=e 6 (by omega) (by omega)
   have e7:=e 7 (by omega) (by omega)
   have e8:=e 8 (by omega) (by omega)
   have e9:=e 9 (by omega) (by omega)
   have e10:=e 10 (by omega) (by omega)
   have e13:=e 13 (by omega) (by omega)
   clear e
   by_cases h0:op<1
   · have a1:¬ 1≤op:=by omega
     have a2:¬ 21≤op:=by omega
     have a3:¬ 11≤op:=by omega
     have a4:¬ 25≤op:=by omega
     clear h
     go_enter Tryz.func50,Tryz.ntmps50
     go_wp2
     go_ret
     exact⟨by rw[HM.out];rfl,HL.out _⟩
   · have a1:27<op:=by omega
     have b1:¬op≤4:=by omega
     have b2:¬op≤24:=by omega
     have b3:¬op≤20:=by omega
     have b4:¬op≤27:=by omega
     clear h
     go_enter Tryz.func50,Tryz.ntmps50
     go_wp2
     go_ret
     exact⟨by rw[HM.out];rfl,HL.out _⟩
end Go.Proofs.YtgbljlabifpmgaaGreatDoor
