import Derived.Test.YtlnhaajjoplafaaGreatDoorChecked
import Derived.Test.YtlnhaajjoplafaaGreatDoorT2
import Derived.WalkKit
import Derived.WalkLawsBesides
import Derived.Lib.Bytealg
import Derived.Deep.QuietTactic
import Derived.BigQuiet
import Derived.StillTailTactics
import Derived.Below
import Derived.Lib.SliceRun
import Derived.OwnWalk
import Derived.Laws.StructEq
import Derived.Test.YtlnhaajjoplafaaGreatDoorT8
set_option linter.unusedVariables false
set_option maxHeartbeats 12000000
namespace Go.Proofs.YtlnhaajjoplafaaGreatDoor
open Go.RowKit
def Up (w w':World):Prop:=Below w.heap.size w w'∧w.drawn≤w'.drawn
theorem Up.refl (w:World):Up w w:=⟨Below.refl _ _,Nat.le_refl _⟩
theorem Up.trans {a b c:World}(h:Up a b)(k:Up b c):Up a c:=⟨h.1.trans (k.1.mono h.1.size),Nat.le_trans h.2 k.2⟩
theorem Up.alloc (w:World)(o:Obj):Up w (w.alloc o):=⟨(Below.refl _ _).alloc (Nat.le_refl _) _,Nat.le_refl _⟩
theorem Up.drew (w:World):Up w w.drew:=⟨(Below.refl _ _).drew,Nat.le_succ _⟩
def Nd.val (x:Nd):Value:=.agg #[.int .i64 x.op,.int .i64 x.n,.string x.s,.string x.t]
def Nd.wf (x:Nd):Prop:=x.s.size≤maxLen∧x.t.size≤maxLen∧x.n≤9223372036854775807
theorem ret_i {k:IntKind}{a b:Int}(h:a=b):Ending.returned (.int k a)= .returned (.int k b):=by rw[h]
def NL (w:World)(p:Option Addr)(L:List Nd):Prop:=
 L=[]∨∃b off,p=some ⟨b,off,none⟩∧b<w.heap.size∧∀i x,L[i]? =some x→
  w.cell? ⟨b,off+i*4,none⟩=some (.int .i64 x.op)∧w.cell? ⟨b,off+i*4+1,none⟩=some (.int .i64 x.n)∧
  w.cell? ⟨b,off+i*4+2,none⟩=some (.string x.s)∧w.cell? ⟨b,off+i*4+3,none⟩=some (.string x.t)∧x.wf
theorem NL.up {w w':World}{p:Option Addr}{L:List Nd}(h:NL w p L)(k:Below w.heap.size w w'):NL w' p L:=by
 rcases h with h | ⟨b,off,h1,h2,h3⟩
 · exact .inl h
 · refine .inr ⟨b,off,h1,Nat.lt_of_lt_of_le h2 k.size,fun i x hx=>?_⟩
   have q:∀o,w'.cell? ⟨b,o,none⟩=w.cell? ⟨b,o,none⟩:=fun o=>k.cell (p:=⟨b,o,none⟩) h2
   simp only[q]
   exact h3 i x hx
theorem NL.at {w:World}{p:Option Addr}{L:List Nd}(h:NL w p L){i:Nat}(hi:i<L.length):∃b off,p=some ⟨b,off,none⟩∧b<w.heap.size∧
 w.cell? ⟨b,off+i*4,none⟩=some (.int .i64 L[i].op)∧w.cell? ⟨b,off+i*4+1,none⟩=some (.int .i64 L[i].n)∧
 w.cell? ⟨b,off+i*4+2,none⟩=some (.string L[i].s)∧w.cell? ⟨b,off+i*4+3,none⟩=some (.string L[i].t)∧L[i].wf:=by
 rcases h with rfl | ⟨b,off,h1,h2,h3⟩
 · simp at hi
 · exact⟨b,off,h1,h2,h3 i _ (List.getElem?_eq_getElem hi)⟩
structure AK (w:World)(a:List Nd)(p:Option Addr)(c:Nat):Prop where
 nl:NL w p a
 le:a.length≤c
 cm:c≤maxLen
theorem AK.up {w w':World}{a:List Nd}{p:Option Addr}{c:Nat}(h:AK w a p c)(hb:Below w.heap.size w w'):AK w' a p c:=⟨h.nl.up hb,h.le,h.cm⟩
theorem compareStr_any (a b:ByteArray)(w:World):
 Calls Tryz.prog 209 #[.string a,.string b] w fun e w'=>e= .returned (.int .i64 (cmpB a b))∧w'=w:=by
 have hx:= @run_callFunc_extern Tryz.prog 216 _ Extern.BytealgCompare.compare Tryz.func216 (by kernel_rfl) (by kernel_rfl) (by kernel_rfl) (by kernel_rfl)
 have hy:= @Lib.run_compareString Tryz.prog
 go_enter Tryz.func209,Tryz.ntmps209
 go_wp2
 go_ret
 exact⟨rfl,rfl⟩
theorem strCompare_any (a b:ByteArray)(w:World):
 Calls Tryz.prog 194 #[.string a,.string b] w fun e w'=>e= .returned (.int .i64 (cmpB a b))∧w'=w:=by
 go_enter Tryz.func194,Tryz.ntmps194
 go_wp2_with (go_at_call 209;refine(compareStr_any _ _ _).mono ?_;rintro e w' ⟨rfl,rfl⟩)
 go_ret
 exact⟨rfl,rfl⟩
theorem isNaN_any (a:Int)(w:World):
 Calls Tryz.prog 208 #[.int .i64 a] w fun e w'=>e= .returned (.bool false)∧w'=w:=by
 go_enter Tryz.func208,Tryz.ntmps208
 go_wp2
 go_ret
 exact⟨by simp,rfl⟩
theorem cmpInt_any (a b:Int)(w:World):
 Calls Tryz.prog 193 #[.int .i64 a,.int .i64 b] w fun e w'=>e= .returned (.int .i64 (cmpI a b))∧w'=w:=by
 by_cases h:a<b
 · go_enter Tryz.func193,Tryz.ntmps193
   go_wp2_with (go_at_call 208;refine(isNaN_any _ _).mono ?_;rintro e w' ⟨rfl,rfl⟩)
   go_ret
   exact⟨ret_i (by unfold cmpI;split<;>omega),rfl⟩
 · by_cases k:b<a
   · go_enter Tryz.func193,Tryz.ntmps193
     go_wp2_with (go_at_call 208;refine(isNaN_any _ _).mono ?_;rintro e w' ⟨rfl,rfl⟩)
     go_ret
     exact⟨ret_i (by unfold cmpI;repeat' split<;>omega),rfl⟩
   · go_enter Tryz.func193,Tryz.ntmps193
     go_wp2_with (go_at_call 208;refine(isNaN_any _ _).mono ?_;rintro e w' ⟨rfl,rfl⟩)
     go_ret
     exact⟨ret_i (by unfold cmpI;repeat' split<;>omega),rfl⟩
theorem orI_drop (l:List Int)(k:Nat)(x:Int)(h:l[k]? =some x):orI (l.drop k)=if x=0 then orI (l.drop (k+1))else x:=by
 obtain⟨hk,rfl⟩:=List.getElem?_eq_some_iff.1 h
 rw[List.drop_eq_getElem_cons hk]
 rfl
theorem cmpOr_any (b c:Nat)(l:List Int)(w:World)(hn:l.length=4)
 (hc:∀(i:Nat) (x:Int),l[i]? =some x→w.cell? ⟨b,i,none⟩=some (.int .i64 x)):
 Calls Tryz.prog 192 #[.slice (some ⟨b,0,none⟩) 4 c] w fun e w'=>e= .returned (.int .i64 (orI l))∧w'=w:=by
 have HC:Hid (∀(i:Nat) (x:Int),l[i]? =some x→w.cell? ⟨b,i,none⟩=some (.int .i64 x)):=hc
 clear hc
 go_enter Tryz.func192,Tryz.ntmps192
 go_wp2
 go_loop [8] (fun i=>∃k:Nat,k≤4∧i= .int .i64 k∧Hid (orI (l.drop k)=orI l)) (fun i=>4-(intOf i).toNat)
 case atStart=>exact⟨0,by omega,rfl,rfl⟩
 case round=>
  obtain⟨k,hk,rfl,HD⟩:=hrel
  by_cases hlt:k<4
  · obtain⟨x,hx⟩:∃x,l[k]? =some x:=⟨_,List.getElem?_eq_getElem (by omega)⟩
    have HS:Hid (_=_):=orI_drop l k x hx
    have hcx:=HC.out k x hx
    clear hx
    have i1:(k:Int)<4:=by omega
    by_cases hz:x=0
    · subst hz
      go_wp2
      go_round
      case rel=>exact⟨k+1,by omega,by go_num,by show _=_;rw[←HD.out,HS.out];simp⟩
      case measure=>simp[intOf];omega
    · have hz':(x != 0)=true:=by simpa using hz
      go_wp2
      go_ret
      exact⟨ret_i (by rw[←HD.out,HS.out,if_neg hz]),rfl⟩
  · obtain rfl:k=4:=by omega
    have HZ:Hid (0=orI l):=by
     have:=HD.out
     rw[List.drop_of_length_le (by omega)]at this
     exact this
    clear HD
    go_wp2
    go_ret
    exact⟨ret_i HZ.out,rfl⟩
set_option maxRecDepth 100000 in
theorem orderNd_any (x y:Nd)(w:World):
 Calls Tryz.prog 162 #[x.val,y.val] w fun e w'=>e= .returned (.int .i64 (ndC x y))∧Up w w':=by
 unfold Nd.val
 go_enter Tryz.func162,Tryz.ntmps162
 go_wp2
 generalize hwq:(w.alloc (.cells #[.int .i64 x.op,.int .i64 x.n,.string x.s,.string x.t] 47)).alloc (.cells #[.int .i64 y.op,.int .i64 y.n,.string y.s,.string y.t] 47)=wq
 refine wp_region_still_tail 20 (by kernel_rfl) (by kernel_rfl) ?_
 change wpStill _ _ wq.drew (fun a'=>wpList _ _ _ _ a' wq.drew) _ _
 have hup:Up w wq.drew:=by subst hwq;exact((Up.alloc _ _).trans (Up.alloc _ _)).trans (Up.drew _)
 have hx:∀i,i<4→wq.drew.cell? ⟨w.heap.size,i,none⟩=(#[.int .i64 x.op,.int .i64 x.n,.string x.s,.string x.t]:Array Value)[i]? :=by
  subst hwq;intro i hi;simp[go_sem]
 have hy:∀i,i<4→wq.drew.cell? ⟨w.heap.size+1,i,none⟩=(#[.int .i64 y.op,.int .i64 y.n,.string y.s,.string y.t]:Array Value)[i]? :=by
  subst hwq;intro i hi;simp[go_sem]
 generalize wq.drew=wd at hup hx hy ⊢
 have x0:=hx 0 (by omega)
 have x1:=hx 1 (by omega)
 have x2:=hx 2 (by omega)
 have x3:=hx 3 (by omega)
 have y0:=hy 0 (by omega)
 have y1:=hy 1 (by omega)
 have y2:=hy 2 (by omega)
 have y3:=hy 3 (by omega)
 clear hx hy hwq
 simp at x0 x1 x2 x3 y0 y1 y2 y3
 simp only[List.take_succ_cons,List.take_zero,List.drop_succ_cons,List.drop_zero]
 repeat still_step
 still_call (cmpInt_any _ _ _)
 repeat still_step
 still_call (cmpInt_any _ _ _)
 repeat still_step
 still_call (strCompare_any _ _ _)
 repeat still_step
 still_call (strCompare_any _ _ _)
 refine wpStill_nil ?_
 go_wp2_with fail
 refine(cmpOr_any _ _ [cmpI x.op y.op,cmpI x.n y.n,cmpB x.s y.s,cmpB x.t y.t] _ rfl ?_).mono ?_
 · intro i z hz
   rcases i with _ | _ | _ | _ | i<;>simp at hz<;>subst hz<;>simp[go_sem]
 rintro e w1 ⟨rfl,rfl⟩
 go_wp2
 go_ret
 exact⟨rfl,hup.trans (Up.alloc _ _)⟩
theorem lsC_step (a b:List Nd)(k:Nat)(x y:Nd)(hx:a[k]? =some x)(hy:b[k]? =some y):lsC (a.drop k) (b.drop k)=if ndC x y=0 then lsC (a.drop (k+1)) (b.drop (k+1))else ndC x y:=by
 obtain⟨h1,rfl⟩:=List.getElem?_eq_some_iff.1 hx
 obtain⟨h2,rfl⟩:=List.getElem?_eq_some_iff.1 hy
 rw[List.drop_eq_getElem_cons h1,List.drop_eq_getElem_cons h2]
 rfl
theorem lsC_more (a b:List Nd)(k:Nat)(hx:k<a.length)(hy:b.length≤k):lsC (a.drop k) (b.drop k)=1:=by
 rw[List.drop_eq_getElem_cons hx,List.drop_of_length_le hy]
 rfl
theorem lsC_less (a b:List Nd)(k:Nat)(hx:a.length≤k)(hy:k<b.length):lsC (a.drop k) (b.drop k)= -1:=by
 rw[List.drop_eq_getElem_cons hy,List.drop_of_length_le hx]
 rfl
theorem lsC_done (a b:List Nd)(k:Nat)(hx:a.length≤k)(hy:b.length≤k):lsC (a.drop k) (b.drop k)=0:=by
 rw[List.drop_of_length_le hx,List.drop_of_length_le hy]
 rfl
theorem compareFunc_any (a b:List Nd)(p q:Option Addr)(c1 c2:Nat)(w:World)(ha:NL w p a)(hb:NL w q b)(la:a.length≤maxLen)(lb:b.length≤maxLen):
 Calls Tryz.prog 161 #[.slice p a.length c1,.slice q b.length c2,.func (.func 162) #[] #[]] w fun e w'=>e= .returned (.int .i64 (lsC a b))∧Up w w':=by
 unfold maxLen at la lb
 go_enter Tryz.func161,Tryz.ntmps161
 go_wp2
 go_loopw [13] (fun i wr=>∃k:Nat,k≤a.length∧k≤b.length∧i= .int .i64 k∧Up w wr∧Hid (lsC (a.drop k) (b.drop k)=lsC a b)) (fun i _=>a.length-(intOf i).toNat)
 case atStart=>exact⟨0,Nat.zero_le _,Nat.zero_le _,rfl,Up.refl _,rfl⟩
 case round=>
  obtain⟨k,hk,hk2,rfl,hup,HD⟩:=hrel
  have HA:=ha.up hup.1
  have HB:=hb.up hup.1
  by_cases hlt:k<a.length
  · obtain⟨x,hx⟩:∃x,a[k]? =some x:=⟨_,List.getElem?_eq_getElem hlt⟩
    obtain⟨b1,o1,rfl,hb1,x0,x1,x2,x3,xw⟩:=HA.at hlt
    have i1:(k:Int)<(a.length:Int):=by omega
    by_cases hlt2:k<b.length
    · obtain⟨y,hy⟩:∃y,b[k]? =some y:=⟨_,List.getElem?_eq_getElem hlt2⟩
      obtain⟨b2,o2,rfl,hb2,y0,y1,y2,y3,yw⟩:=HB.at hlt2
      have i2:(k:Int)<(b.length:Int):=by omega
      have HS:Hid (_=_):=lsC_step a b k x y hx hy
      obtain rfl:x=a[k]:=by rw[List.getElem?_eq_getElem hlt]at hx;exact(Option.some.inj hx).symm
      obtain rfl:y=b[k]:=by rw[List.getElem?_eq_getElem hlt2]at hy;exact(Option.some.inj hy).symm
      clear hx hy
      generalize a[k]=x at *
      generalize b[k]=y at *
      go_wp2_with fail
      refine(orderNd_any x y _).mono ?_
      rintro e w1 ⟨rfl,hu1⟩
      have hu2:Up w w1:=(hup.trans ((Up.alloc _ _).trans (Up.alloc _ _))).trans hu1
      clear hu1 x0 x1 x2 x3 y0 y1 y2 y3
      generalize ndC x y=z at *
      cases hz:(z != 0)
      · have hz':z=0:=by simpa using hz
        subst hz'
        go_wp2
        go_roundw
        case rel=>exact⟨k+1,by omega,by omega,by go_num,hu2,by show _=_;rw[←HD.out,HS.out];simp⟩
        case measure=>simp[intOf];omega
      · go_wp2
        go_ret
        exact⟨ret_i (by rw[←HD.out,HS.out,if_neg (by simpa using hz)]),hu2⟩
    · have HS:Hid (_=_):=lsC_more a b k hlt (by omega)
      have i2:(b.length:Int)≤(k:Int):=by omega
      clear hx
      generalize a[k]=x at *
      go_wp2
      go_ret
      exact⟨ret_i (by rw[←HD.out,HS.out]),hup.trans (Up.alloc _ _)⟩
  · have i1:¬(k:Int)<(a.length:Int):=by omega
    by_cases hlt2:k<b.length
    · have HS:Hid (_=_):=lsC_less a b k (by omega) hlt2
      have i2:(a.length:Int)<(b.length:Int):=by omega
      go_wp2
      go_ret
      exact⟨ret_i (by rw[←HD.out,HS.out]),hup⟩
    · have HS:Hid (_=_):=lsC_done a b k (by omega) (by omega)
      have i2:¬(a.length:Int)<(b.length:Int):=by omega
      go_wp2
      go_ret
      exact⟨ret_i (by rw[←HD.out,HS.out]),hup⟩
theorem order_any (a b:List Nd)(p q:Option Addr)(c1 c2:Nat)(w:World)(ha:NL w p a)(hb:NL w q b)(la:a.length≤maxLen)(lb:b.length≤maxLen):
 Calls Tryz.prog 118 #[.slice p a.length c1,.slice q b.length c2] w fun e w'=>e= .returned (.int .i64 (lsC a b))∧Up w w':=by
 go_enter Tryz.func118,Tryz.ntmps118
 go_wp2_with fail
 refine(compareFunc_any a b p q c1 c2 _ ha hb la lb).mono ?_
 rintro e w1 ⟨rfl,hu⟩
 go_wp2
 go_ret
 exact⟨rfl,hu⟩
theorem NL.tail {w:World}{b off:Nat}{x:Nd}{r:List Nd}(h:NL w (some ⟨b,off,none⟩) (x::r)):NL w (some ⟨b,off+4,none⟩) r:=by
 rcases h with h | ⟨b',off',h1,h2,h3⟩
 · cases h
 · cases h1
   refine .inr ⟨_,_,rfl,h2,fun i y hy=>?_⟩
   have:=h3 (i+1) y (by simpa using hy)
   rw[show off+(i+1)*4=off+4+i*4 by omega]at this
   exact this
theorem NL.take {w:World}{p:Option Addr}{L:List Nd}(h:NL w p L)(n:Nat):NL w p (L.take n):=by
 rcases h with rfl | ⟨b',off',h1,h2,h3⟩
 · exact .inl (by simp)
 · refine .inr ⟨_,_,h1,h2,fun i y hy=>h3 i y ?_⟩
   rw[List.getElem?_take]at hy
   split at hy
   · exact hy
   · cases hy
theorem NL.head {w:World}{p:Option Addr}{x:Nd}{r:List Nd}(h:NL w p (x::r)):∃b off,p=some ⟨b,off,none⟩∧b<w.heap.size∧
 w.cell? ⟨b,off,none⟩=some (.int .i64 x.op)∧w.cell? ⟨b,off+1,none⟩=some (.int .i64 x.n)∧
 w.cell? ⟨b,off+2,none⟩=some (.string x.s)∧w.cell? ⟨b,off+3,none⟩=some (.string x.t)∧x.wf:=by
 rcases h with h | ⟨b,off,h1,h2,h3⟩
 · cases h
 · exact⟨b,off,h1,h2,by simpa using h3 0 x rfl⟩
theorem bytesLess_cb:∀(l m:List UInt8),Op.bytesLess l m=decide (Lib.compareBytes l m<0)
 | [],[]=>rfl
 | [],_::_=>rfl
 | _::_,[]=>rfl
 | a::x,b::y=>by
   rw[Op.bytesLess,cb_cons,bytesLess_cb x y]
   by_cases h:a<b
   · simp[h]
   · by_cases k:b<a
     · have:¬a=b:=fun e=>by subst e;exact absurd k h
       simp[h,k,this]
     · have:a=b:=UInt8.le_antisymm (UInt8.not_lt.1 k) (UInt8.not_lt.1 h)
       subst this
       simp
def LL (w:World)(p:Option Addr)(vs:List (List Nd)):Prop:=
 vs=[]∨∃b off,p=some ⟨b,off,none⟩∧b<w.heap.size∧∀i v,vs[i]? =some v→∃q c,w.cell? ⟨b,off+i,none⟩=some (.slice q v.length c)∧NL w q v∧v.length≤c∧c≤maxLen
theorem LL.up {w w':World}{p:Option Addr}{vs:List (List Nd)}(h:LL w p vs)(k:Below w.heap.size w w'):LL w' p vs:=by
 rcases h with h | ⟨b,off,h1,h2,h3⟩
 · exact .inl h
 · refine .inr ⟨b,off,h1,Nat.lt_of_lt_of_le h2 k.size,fun i v hv=>?_⟩
   obtain⟨q,c,h4,h5,h6⟩:=h3 i v hv
   exact⟨q,c,(k.cell (p:=⟨b,off+i,none⟩) h2).trans h4,h5.up k,h6⟩
theorem LL.at {w:World}{p:Option Addr}{vs:List (List Nd)}(h:LL w p vs){i:Nat}(hi:i<vs.length):∃b off q c,p=some ⟨b,off,none⟩∧b<w.heap.size∧
 w.cell? ⟨b,off+i,none⟩=some (.slice q vs[i].length c)∧NL w q vs[i]∧vs[i].length≤c∧c≤maxLen:=by
 rcases h with rfl | ⟨b,off,h1,h2,h3⟩
 · simp at hi
 · obtain⟨q,c,h4,h5⟩:=h3 i _ (List.getElem?_eq_getElem hi)
   exact⟨b,off,q,c,h1,h2,h4,h5⟩
def ffault:List (List Nd)→Int
 | []=>0
 | v::vs=>if vfault v=0 then ffault vs else vfault v
theorem ffault_step (vs:List (List Nd))(k:Nat)(hk:k<vs.length):ffault (vs.drop k)=if vfault vs[k]=0 then ffault (vs.drop (k+1))else vfault vs[k]:=by
 rw[List.drop_eq_getElem_cons hk];rfl
theorem ffault_zero:∀(vs:List (List Nd)),ffault vs=0↔∀v∈vs,vfault v=0
 | []=>by simp[ffault]
 | v::vs=>by
   unfold ffault
   by_cases h:vfault v=0
   · rw[if_pos h,ffault_zero vs];simp[h]
   · rw[if_neg h];simp[h]
theorem Tryz.infoNodeC:(Tryz.prog.info? 47).map (fun i=>(i.zero,i.size,i.bytes))=some (some (.agg #[.int .i64 0,.int .i64 0,.string ⟨#[]⟩,.string ⟨#[]⟩]),4,48):=by kernel_rfl
def ncellsC (L:List Nd):List Value:=L.flatMap fun x=>[.int .i64 x.op,.int .i64 x.n,.string x.s,.string x.t]
theorem ncellsC_length (L:List Nd):(ncellsC L).length=L.length*4:=by
 induction L with
 | nil=>rfl
 | cons x L ih=>simp[ncellsC]at *; omega
theorem ncellsC_at (L:List Nd)(i j:Nat)(hj:j<4):(ncellsC L)[i*4+j]? =(L[i]?).bind fun x=>[Value.int .i64 x.op,.int .i64 x.n,.string x.s,.string x.t][j]? :=by
 induction L generalizing i with
 | nil=>simp[ncellsC]
 | cons x L ih=>
   have e:ncellsC (x::L)=[.int .i64 x.op,.int .i64 x.n,.string x.s,.string x.t]++ncellsC L:=by simp[ncellsC]
   rw[e]
   cases i with
   | zero=>
     rw[List.getElem?_append_left (by simp;omega)]
     simp
   | succ i=>
     rw[List.getElem?_append_right (by simp;omega)]
     have:=ih i
     simp only[List.length_cons,List.length_nil,List.getElem?_cons_succ]
     rw[←this]
     congr 1;omega
theorem ncellsC_one (L:List Nd):∀u∈ncellsC L,u.oneCell'=true:=by
 intro u hu
 simp only[ncellsC,List.mem_flatMap]at hu
 obtain⟨x,_,hu⟩:=hu
 simp at hu
 rcases hu with rfl | rfl | rfl | rfl<;>rfl
theorem NL.cellsC {w:World}{b off:Nat}{L:List Nd}(h:NL w (some ⟨b,off,none⟩) L):∀j u,(ncellsC L)[j]? =some u→w.cell? ⟨b,off+j,none⟩=some u:=by
 intro j u hu
 rcases h with rfl | ⟨b',o',h1,h2,h3⟩
 · simp[ncellsC]at hu
 · cases h1
   have hj:j=(j / 4)*4+j % 4:=by omega
   rw[hj,ncellsC_at L (j / 4) (j % 4) (by omega)]at hu
   cases hx:L[j / 4]? with
   | none=>rw[hx]at hu;simp at hu
   | some x=>
     rw[hx]at hu
     obtain⟨c0,c1,c2,c3,_⟩:=h3 _ x hx
     have hm:j % 4=0∨j % 4=1∨j % 4=2∨j % 4=3:=by omega
     rw[hj]
     rcases hm with e | e | e | e<;>rw[e]at hu ⊢ <;>simp at hu<;>subst hu
     · exact c0
     · rw[←Nat.add_assoc];exact c1
     · rw[←Nat.add_assoc];exact c2
     · rw[←Nat.add_assoc];exact c3
theorem NL.of_rowC {w:World}{base:Nat}{v:Value}{L:List Nd}(hw:∀x∈L,x.wf)(h:w.ownsRow base 47 4 v L.length (ncellsC L)):∃q c,v= .slice q L.length c∧NL w q L∧L.length≤c∧c≤maxLen:=by
 have hc:=fun g hg=>World.ownsRow.cells h (g:=g) hg
 rcases h.2 with⟨rfl,hn⟩ | ⟨g,cap,cur,rfl,hb,hgg,hle,hm,_⟩
 · obtain rfl:=List.eq_nil_of_length_eq_zero hn
   exact⟨none,0,rfl,.inl rfl,Nat.le_refl _,Nat.zero_le _⟩
 · refine⟨_,cap,rfl,.inr ⟨g,0,rfl,(Array.getElem?_eq_some_iff.1 hgg).1,fun i x hx=>?_⟩,hle,hm⟩
   have q:∀j,j<4→w.cell? ⟨g,i*4+j,none⟩=[Value.int .i64 x.op,.int .i64 x.n,.string x.s,.string x.t][j]? :=fun j hj=>by
    have e:=ncellsC_at L i j hj
    rw[hx]at e
    have hadd:(⟨g,0,none⟩:Addr).add (i*4+j)=⟨g,i*4+j,none⟩:=by unfold Addr.add;split<;>simp_all
    obtain⟨u,hu⟩:∃u,[Value.int .i64 x.op,.int .i64 x.n,.string x.s,.string x.t][j]? =some u:=⟨_,List.getElem?_eq_getElem (by simpa using hj)⟩
    have:=hc g rfl (i*4+j) u (by rw[e];exact hu)
    rw[hadd]at this
    rw[this,hu]
   refine⟨?_,?_,?_,?_,hw x (List.mem_of_getElem? hx)⟩
   · have:=q 0 (by omega);simpa using this
   · have:=q 1 (by omega);simpa using this
   · have:=q 2 (by omega);simpa using this
   · have:=q 3 (by omega);simpa using this
theorem NL.wfsC {w:World}{q:Option Addr}{L:List Nd}(h:NL w q L):∀x∈L,x.wf:=by
 intro x hx
 obtain⟨i,hi⟩:=List.getElem?_of_mem hx
 rcases h with rfl | ⟨b,o,_,_,h3⟩
 · cases hx
 · exact(h3 i x hi).2.2.2.2
set_option maxRecDepth 100000 in
theorem cloneN_fn (L:List Nd)(b off c:Nat)(w:World)(hv:NL w (some ⟨b,off,none⟩) L)(hl:L.length≤1099511627776):
 Calls Tryz.prog 29 #[.slice (some ⟨b,off,none⟩) L.length c] w fun e w'=>(∃q c',e= .returned (.slice q L.length c')∧NL w' q L∧L.length≤c'∧c'≤maxLen)∧Below w.heap.size w w':=by
 obtain⟨i0,hi,hz0,hz1,hz2⟩:=info_parts Tryz.infoNodeC
 have HC:Hid (∀j u,(ncellsC L)[j]? =some u→w.cell? ⟨b,off+j,none⟩=some u):=hv.cellsC
 have HW:=hv.wfsC
 have q22:∀(w:World) (a:Option Addr) (n c n' c':Nat),(binOp .eql 30 (.slice a n c) (.slice none n' c')).run Tryz.prog w= .ok (.bool a.isNone) w:=fun w a n c n' c'=>Lib.run_eql_slice_nil w _ _ a n c n' c' Tryz.underlying30
 go_enter Tryz.func29,Tryz.ntmps29
 go_wp2_with (at_builtin;refine wpList_append_own _ rfl _ _ 30 rfl w.heap.size 47 i0 _ 4 48 Tryz.underlying30 hi hz0 hz1 hz2 rfl (by decide) _ _ _ rfl (World.ownsRow_made w #[] 0 (Nat.le_refl _) (Nat.zero_le _) (by simp)) ⟨b,off,none⟩ L.length c (ncellsC L) rfl ?qc1 ?qc2 ?qc3 ?qc4 ?qc5 ?qc6 ?_)
 case qc1=>exact ncellsC_length L
 case qc2=>
  intro j u hu
  have hh:=HC.out j u hu
  have hlt:=World.block_lt_of_cell? w _ hh
  have hadd:(⟨b,off,none⟩:Addr).add j=⟨b,off+j,none⟩:=by unfold Addr.add;split<;>simp_all
  rw[hadd]
  exact(Below.cell (p:=⟨b,off+j,none⟩) ((Below.refl w.heap.size w).alloc (Nat.le_refl _) _) hlt).trans hh
 case qc3=>exact ncellsC_one L
 case qc4=>unfold maxLen;omega
 case qc5=>omega
 case qc6=>simp
 intro v' w' h1 h2 h3
 obtain⟨q,c',rfl,hnt,hl',hm'⟩:=NL.of_rowC HW h1
 have hbel:Below w.heap.size w w':=((Below.refl w.heap.size w).alloc (Nat.le_refl _) (.cells #[] 47)).grown h2 (by simp) (fun k hk=>by simp[Value.ownBlock]at hk;omega)
 clear h1 h2 h3 hi hz0 hz1 hz2
 go_wp2
 go_ret
 exact⟨⟨q,c',rfl,hnt,hl',hm'⟩,hbel⟩
def sameNd (a b:List Nd):Bool:=decide (lsC a b=0)
theorem sameNd_iff (a b:List Nd):sameNd a b=true↔a=b:=by unfold sameNd;rw[decide_eq_true_iff,lsC_is.zero]
theorem sameNd_no {a b:List Nd}(h:a≠b):sameNd a b=false:=by
 cases e:sameNd a b with
 | false=>rfl
 | true=>exact absurd ((sameNd_iff a b).1 e) h
theorem ret_b {a b:Bool}(h:a=b):Ending.returned (.bool a)= .returned (.bool b):=by rw[h]
theorem take_same {a b:List Nd}{k:Nat}(ha:k<a.length)(hb:k<b.length)(h:a.take k=b.take k)(e:a[k]=b[k]):a.take (k+1)=b.take (k+1):=by
 rw[List.take_succ_eq_append_getElem ha,List.take_succ_eq_append_getElem hb,h,e]
theorem sameNodes_any (a b:List Nd)(p q:Option Addr)(c1 c2:Nat)(w:World)(ha:NL w p a)(hb:NL w q b)(la:a.length≤maxLen)(lb:b.length≤maxLen):
 Calls Tryz.prog 9 #[.slice p a.length c1,.slice q b.length c2] w fun e w'=>e= .returned (.bool (sameNd a b))∧∃n,w'=w.drewN n:=by
 unfold maxLen at la lb
 by_cases hl:a.length=b.length
 · have i0:((a.length:Int) != (b.length:Int))=false:=by simp[hl]
   go_enter Tryz.func9,Tryz.ntmps9
   go_wp2
   go_loopw [5] (fun i wr=>∃k n:Nat,k≤a.length∧i= .int .i64 k∧wr=w.drewN n∧Hid (a.take k=b.take k)) (fun i _=>a.length-(intOf i).toNat)
   case atStart=>exact⟨0,0,Nat.zero_le _,rfl,rfl,rfl⟩
   case round=>
    obtain⟨k,n,hk,rfl,rfl,HD⟩:=hrel
    by_cases hlt:k<a.length
    · have hlt2:k<b.length:=by omega
      obtain⟨b1,o1,rfl,hb1,x0,x1,x2,x3,xw⟩:=ha.at hlt
      obtain⟨b2,o2,rfl,hb2,y0,y1,y2,y3,yw⟩:=hb.at hlt2
      have i1:(k:Int)<(a.length:Int):=by omega
      have i2:(k:Int)<(b.length:Int):=by omega
      have HE:Hid (a[k]=b[k]→a.take (k+1)=b.take (k+1)):=take_same hlt hlt2 HD.out
      have HF:Hid (a[k]≠b[k]→a≠b):=fun h1 h2=>h1 (by subst h2;rfl)
      generalize a[k]=x at *
      generalize b[k]=y at *
      obtain⟨xa,xb,xc,xd⟩:=x
      obtain⟨ya,yb,yc,yd⟩:=y
      simp only at x0 x1 x2 x3 y0 y1 y2 y3
      by_cases h1:xa=ya
      · subst h1
        by_cases h2:xb=yb
        · subst h2
          by_cases h3:xc=yc
          · subst h3
            by_cases h4:xd=yd
            · subst h4
              have HE2:Hid (a.take (k+1)=b.take (k+1)):=HE.out rfl
              clear HE HF
              go_wp2
              go_quiet (fail)
              go_wp2
              go_roundw
              case rel=>exact⟨k+1,_,by omega,by go_num,rfl,HE2⟩
              case measure=>simp[intOf];omega
            · have h4':¬xd.toList=yd.toList:=fun h=>h4 (bytes_inj (by simpa only[ByteArray.toList_eq]using h))
              go_wp2
              go_quiet (fail)
              go_wp2
              go_ret
              exact⟨ret_b (sameNd_no (HF.out (fun h=>h4 (by injection h)))).symm,_,by rw[World.drewN_drewN]⟩
          · have h3':¬xc.toList=yc.toList:=fun h=>h3 (bytes_inj (by simpa only[ByteArray.toList_eq]using h))
            go_wp2
            go_quiet (fail)
            go_wp2
            go_ret
            exact⟨ret_b (sameNd_no (HF.out (fun h=>h3 (by injection h)))).symm,_,by rw[World.drewN_drewN]⟩
        · go_wp2
          go_quiet (fail)
          go_wp2
          go_ret
          exact⟨ret_b (sameNd_no (HF.out (fun h=>h2 (by injection h)))).symm,_,by rw[World.drewN_drewN]⟩
      · go_wp2
        go_quiet (fail)
        go_wp2
        go_ret
        exact⟨ret_b (sameNd_no (HF.out (fun h=>h1 (by injection h)))).symm,_,by rw[World.drewN_drewN]⟩
    · have i1:¬(k:Int)<(a.length:Int):=by omega
      have HS:Hid (sameNd a b=true):=by
       show _=_
       rw[sameNd_iff]
       have:=HD.out
       rw[List.take_of_length_le (by omega),List.take_of_length_le (by omega)]at this
       exact this
      go_wp2
      go_ret
      exact⟨ret_b HS.out.symm,_,rfl⟩
 · have i0:((a.length:Int) != (b.length:Int))=true:=by simp;omega
   go_enter Tryz.func9,Tryz.ntmps9
   go_wp2
   go_ret
   exact⟨ret_b (sameNd_no (fun h=>hl (by rw[h]))).symm,0,rfl⟩
theorem fit_ok (L:List Nd)(q:Option Addr)(c:Nat)(w:World)(h:L.length≤200):
 Calls Tryz.prog 120 #[.slice q L.length c] w fun e w'=>e= .returned (.tuple #[.slice q L.length c,.nilIface])∧w'=w:=by
 have h':¬(200:Int)<(L.length:Int):=by omega
 go_enter Tryz.func120,Tryz.ntmps120
 go_wp2
 go_ret2
 exact⟨rfl,rfl⟩
theorem fit_full (L:List Nd)(q:Option Addr)(c:Nat)(w:World)(h:200<L.length):
 Calls Tryz.prog 120 #[.slice q L.length c] w fun e w'=>e= .returned (.tuple #[.slice none 0 0,eV 4])∧w'=w:=by
 have h':(200:Int)<(L.length:Int):=by omega
 go_enter Tryz.func120,Tryz.ntmps120
 go_wp2
 go_ret2
 exact⟨rfl,rfl⟩
end Go.Proofs.YtlnhaajjoplafaaGreatDoor
