import Derived.Lib.Bytealg
import Derived.Test.YtgbljlabifpmgaaGreatDoorP1
set_option linter.unusedVariables false
set_option maxHeartbeats 12000000
namespace Go.Proofs.YtgbljlabifpmgaaGreatDoor
theorem cb_cons (x y:UInt8)(l m:List UInt8):Lib.compareBytes (x::l) (y::m)=if x<y then-1 else if y<x then 1 else Lib.compareBytes l m:=rfl
theorem cb_range:∀(l m:List UInt8),Lib.compareBytes l m= -1∨Lib.compareBytes l m=0∨Lib.compareBytes l m=1
 | [],[]=>Or.inr (Or.inl rfl)
 | [],_::_=>Or.inl rfl
 | _::_,[]=>Or.inr (Or.inr rfl)
 | x::l,y::m=>by
   rw[cb_cons]
   by_cases h:x<y
   · rw[if_pos h];exact Or.inl rfl
   · rw[if_neg h]
     by_cases k:y<x
     · rw[if_pos k];exact Or.inr (Or.inr rfl)
     · rw[if_neg k];exact cb_range l m
theorem cb_neg:∀(l m:List UInt8),Lib.compareBytes l m= -Lib.compareBytes m l
 | [],[]=>rfl
 | [],_::_=>rfl
 | _::_,[]=>rfl
 | x::l,y::m=>by
   rw[cb_cons,cb_cons]
   by_cases h:x<y
   · have k:¬y<x:=by rw[UInt8.lt_iff_toNat_lt]at h ⊢; omega
     rw[if_pos h,if_neg k,if_pos h]
   · rw[if_neg h]
     by_cases k:y<x
     · rw[if_pos k,if_pos k];rfl
     · rw[if_neg k,if_neg k,if_neg h];exact cb_neg l m
theorem cb_zero:∀(l m:List UInt8),Lib.compareBytes l m=0↔l=m
 | [],[]=>⟨fun _=>rfl,fun _=>rfl⟩
 | [],_::_=>⟨fun h=>absurd h (show ¬(-1:Int)=0 by decide),fun h=>(List.cons_ne_nil _ _ h.symm).elim⟩
 | _::_,[]=>⟨fun h=>absurd h (show ¬(1:Int)=0 by decide),fun h=>(List.cons_ne_nil _ _ h).elim⟩
 | x::l,y::m=>by
   rw[cb_cons]
   by_cases h:x<y
   · rw[if_pos h]
     refine⟨fun e=>absurd e (by decide),fun e=>?_⟩
     injection e with e1 _
     subst e1
     rw[UInt8.lt_iff_toNat_lt]at h;omega
   · rw[if_neg h]
     by_cases k:y<x
     · rw[if_pos k]
       refine⟨fun e=>absurd e (by decide),fun e=>?_⟩
       injection e with e1 _
       subst e1
       rw[UInt8.lt_iff_toNat_lt]at k;omega
     · rw[if_neg k]
       have hxy:x=y:=by
        rw[UInt8.lt_iff_toNat_lt]at h k
        apply UInt8.toNat_inj.1;omega
       subst hxy
       rw[cb_zero l m]
       exact⟨fun e=>by rw[e],fun e=>by injection e⟩
theorem cb_trans:∀(l m n:List UInt8),Lib.compareBytes l m≤0→Lib.compareBytes m n≤0→Lib.compareBytes l n≤0
 | [],_,[],_,_=>Int.le_refl _
 | [],_,_::_,_,_=>(show(-1:Int)≤0 by decide)
 | _::_,[],_,h,_=>absurd h (show ¬(1:Int)≤0 by decide)
 | _::_,_::_,[],_,h=>absurd h (show ¬(1:Int)≤0 by decide)
 | x::l,y::m,z::n,h1,h2=>by
   rw[cb_cons]at h1 h2 ⊢
   by_cases a1:x<y
   · by_cases b1:y<z
     · have c:x<z:=by rw[UInt8.lt_iff_toNat_lt]at a1 b1 ⊢; omega
       rw[if_pos c];decide
     · rw[if_neg b1]at h2
       by_cases b2:z<y
       · rw[if_pos b2]at h2;exact absurd h2 (by decide)
       · have c:x<z:=by rw[UInt8.lt_iff_toNat_lt]at a1 b1 b2 ⊢; omega
         rw[if_pos c];decide
   · rw[if_neg a1]at h1
     by_cases a2:y<x
     · rw[if_pos a2]at h1;exact absurd h1 (by decide)
     · rw[if_neg a2]at h1
       by_cases b1:y<z
       · have c:x<z:=by rw[UInt8.lt_iff_toNat_lt]at a1 a2 b1 ⊢; omega
         rw[if_pos c];decide
       · rw[if_neg b1]at h2
         by_cases b2:z<y
         · rw[if_pos b2]at h2;exact absurd h2 (by decide)
         · rw[if_neg b2]at h2
           have c1:¬x<z:=by rw[UInt8.lt_iff_toNat_lt]at a1 a2 b1 b2 ⊢; omega
           have c2:¬z<x:=by rw[UInt8.lt_iff_toNat_lt]at a1 a2 b1 b2 ⊢; omega
           rw[if_neg c1,if_neg c2]
           exact cb_trans l m n h1 h2
def uc (a b c d:List UInt8):Int:=if Lib.compareBytes a c=0 then Lib.compareBytes b d else Lib.compareBytes a c
theorem uc_range (a b c d:List UInt8):uc a b c d= -1∨uc a b c d=0∨uc a b c d=1:=by
 unfold uc;split
 · exact cb_range _ _
 · exact cb_range _ _
theorem uc_neg (a b c d:List UInt8):uc a b c d= -uc c d a b:=by
 unfold uc
 have h:=cb_neg a c
 by_cases k:Lib.compareBytes a c=0
 · have k2:Lib.compareBytes c a=0:=by omega
   rw[if_pos k,if_pos k2];exact cb_neg _ _
 · have k2:¬Lib.compareBytes c a=0:=by omega
   rw[if_neg k,if_neg k2];exact h
theorem uc_zero (a b c d:List UInt8):uc a b c d=0↔a=c∧b=d:=by
 unfold uc
 by_cases k:Lib.compareBytes a c=0
 · rw[if_pos k,cb_zero]
   exact⟨fun h=>⟨(cb_zero _ _).1 k,h⟩,fun h=>h.2⟩
 · rw[if_neg k]
   exact⟨fun h=>absurd h k,fun h=>absurd ((cb_zero _ _).2 h.1) k⟩
theorem uc_trans (a b c d e f:List UInt8)(h1:uc a b c d≤0)(h2:uc c d e f≤0):uc a b e f≤0:=by
 unfold uc at h1 h2 ⊢
 by_cases k1:Lib.compareBytes a c=0
 · rw[if_pos k1]at h1
   have e1:=(cb_zero _ _).1 k1
   subst e1
   by_cases k2:Lib.compareBytes a e=0
   · rw[if_pos k2]at h2
     rw[if_pos k2];exact cb_trans _ _ _ h1 h2
   · rw[if_neg k2]at h2
     rw[if_neg k2];exact h2
 · rw[if_neg k1]at h1
   by_cases k2:Lib.compareBytes c e=0
   · have e2:=(cb_zero _ _).1 k2
     subst e2
     rw[if_neg k1];exact h1
   · rw[if_neg k2]at h2
     have h3:=cb_trans _ _ _ h1 h2
     by_cases k3:Lib.compareBytes a e=0
     · have e3:=(cb_zero _ _).1 k3
       subst e3
       have:=cb_neg a c
       omega
     · rw[if_neg k3];exact h3
theorem cb_step (s t:ByteArray)(k:Nat)(hs:k<s.size)(ht:k<t.size):
 Lib.compareBytes (s.data.toList.drop k) (t.data.toList.drop k)=if (s[k].toNat:Int)<(t[k].toNat:Int)then-1 else if (t[k].toNat:Int)<(s[k].toNat:Int)then 1 else Lib.compareBytes (s.data.toList.drop (k+1)) (t.data.toList.drop (k+1)):=by
 have e1:s.data.toList.drop k=s[k]::s.data.toList.drop (k+1):=by
  rw[List.drop_eq_getElem_cons (by simpa using hs)];rfl
 have e2:t.data.toList.drop k=t[k]::t.data.toList.drop (k+1):=by
  rw[List.drop_eq_getElem_cons (by simpa using ht)];rfl
 rw[e1,e2,cb_cons]
 simp only[UInt8.lt_iff_toNat_lt,Int.ofNat_lt]
theorem cb_end (s t:ByteArray)(k:Nat)(hk:k≤s.size)(hk2:k≤t.size)(h:k=s.size∨k=t.size):
 Lib.compareBytes (s.data.toList.drop k) (t.data.toList.drop k)=if s.size<t.size then-1 else if t.size<s.size then 1 else 0:=by
 have ls:s.data.toList.length=s.size:=by simp
 have lt:t.data.toList.length=t.size:=by simp
 rcases h with h | h
 · rw[List.drop_of_length_le (by omega:s.data.toList.length≤k)]
   by_cases q:s.size<t.size
   · rw[if_pos q]
     rw[List.drop_eq_getElem_cons (by omega:k<t.data.toList.length)];rfl
   · rw[if_neg q,if_neg (by omega),List.drop_of_length_le (by omega:t.data.toList.length≤k)];rfl
 · rw[List.drop_of_length_le (by omega:t.data.toList.length≤k)]
   by_cases q:t.size<s.size
   · rw[if_neg (by omega),if_pos q]
     rw[List.drop_eq_getElem_cons (by omega:k<s.data.toList.length)];rfl
   · rw[if_neg (by omega),if_neg q,List.drop_of_length_le (by omega:s.data.toList.length≤k)];rfl
end Go.Proofs.YtgbljlabifpmgaaGreatDoor
namespace Go.Proofs.YtgbljlabifpmgaaGreatDoor
structure Nd where
 op:Int
 n:Int
 s:ByteArray
 t:ByteArray
structure IsCmp {α :Type}(c: α → α →Int):Prop where
 range:∀x y,c x y= -1∨c x y=0∨c x y=1
 neg:∀x y,c x y= -c y x
 zero:∀x y,c x y=0↔x=y
 trans:∀x y z,c x y≤0→c y z≤0→c x z≤0
namespace IsCmp
variable {α β :Type} {c: α → α →Int} {d: β → β →Int}
theorem self (h:IsCmp c)(x: α):c x x=0:=(h.zero x x).2 rfl
theorem lt_le (h:IsCmp c){x y z: α}(h1:c x y<0)(h2:c y z≤0):c x z<0:=by
 have h3:=h.trans x y z (by omega) h2
 rcases Int.lt_or_eq_of_le h3 with h4 | h4
 · exact h4
 · obtain rfl:=(h.zero x z).1 h4
   have:=h.neg x y
   omega
theorem le_lt (h:IsCmp c){x y z: α}(h1:c x y≤0)(h2:c y z<0):c x z<0:=by
 have h3:=h.trans x y z h1 (by omega)
 rcases Int.lt_or_eq_of_le h3 with h4 | h4
 · exact h4
 · obtain rfl:=(h.zero x z).1 h4
   have:=h.neg x y
   omega
def both (c: α → α →Int)(d: β → β →Int)(x y: α × β):Int:=if c x.1 y.1=0 then d x.2 y.2 else c x.1 y.1
theorem both_is (h:IsCmp c)(k:IsCmp d):IsCmp (both c d) where
 range x y:=by unfold both;split;exact k.range _ _;exact h.range _ _
 neg x y:=by
  unfold both
  have:=h.neg x.1 y.1
  by_cases e:c x.1 y.1=0
  · rw[if_pos e,if_pos (by omega)];exact k.neg _ _
  · rw[if_neg e,if_neg (by omega)];exact this
 zero x y:=by
  obtain⟨x1,x2⟩:=x
  obtain⟨y1,y2⟩:=y
  unfold both
  by_cases e:c x1 y1=0
  · simp only[e,if_pos];rw[k.zero,Prod.mk.injEq];exact⟨fun q=>⟨(h.zero _ _).1 e,q⟩,fun q=>q.2⟩
  · simp only[e,if_false];rw[Prod.mk.injEq];exact⟨fun q=>q.elim,fun q=>e ((h.zero _ _).2 q.1)⟩
 trans x y z h1 h2:=by
  obtain⟨x1,x2⟩:=x
  obtain⟨y1,y2⟩:=y
  obtain⟨z1,z2⟩:=z
  unfold both at *
  simp only at *
  by_cases e1:c x1 y1=0
  · obtain rfl:=(h.zero _ _).1 e1
    by_cases e2:c x1 z1=0
    · rw[if_pos e1]at h1
      rw[if_pos e2]at h2 ⊢
      exact k.trans _ _ _ h1 h2
    · rw[if_neg e2]at h2 ⊢
      exact h2
  · rw[if_neg e1]at h1
    by_cases e2:c y1 z1=0
    · obtain rfl:=(h.zero _ _).1 e2
      rw[if_neg e1];exact h1
    · rw[if_neg e2]at h2
      have:=h.lt_le (x:=x1) (y:=y1) (z:=z1) (by omega) h2
      rw[if_neg (by omega)];omega
theorem map_is {γ :Type}(h:IsCmp c)(f: γ → α)(hf:∀x y,f x=f y→x=y):IsCmp (fun x y=>c (f x) (f y)) where
 range x y:=h.range _ _
 neg x y:=h.neg _ _
 zero x y:=(h.zero _ _).trans ⟨hf x y,fun e=>by rw[e]⟩
 trans x y z:=h.trans _ _ _
def lists (c: α → α →Int):List α →List α →Int
 | [],[]=>0
 | [],_::_=> -1
 | _::_,[]=>1
 | x::l,y::m=>if c x y=0 then lists c l m else c x y
theorem lists_is (h:IsCmp c):IsCmp (lists c) where
 range x y:=by
  induction x generalizing y with
  | nil=>cases y<;>simp[lists]
  | cons a l ih=>cases y with
    | nil=>simp[lists]
    | cons b m=>simp only[lists];split;exact ih m;exact h.range _ _
 neg x y:=by
  induction x generalizing y with
  | nil=>cases y<;>simp[lists]
  | cons a l ih=>cases y with
    | nil=>simp[lists]
    | cons b m=>
      simp only[lists]
      have:=h.neg a b
      by_cases e:c a b=0
      · rw[if_pos e,if_pos (by omega)];exact ih m
      · rw[if_neg e,if_neg (by omega)];exact this
 zero x y:=by
  induction x generalizing y with
  | nil=>cases y<;>simp[lists]
  | cons a l ih=>cases y with
    | nil=>simp[lists]
    | cons b m=>
      simp only[lists]
      by_cases e:c a b=0
      · rw[if_pos e,ih m,(h.zero _ _).1 e];simp
      · rw[if_neg e]
        exact⟨fun q=>(e q).elim,fun q=>by injection q with q1 q2;exact(h.zero _ _).2 q1⟩
 trans x y z h1 h2:=by
  induction x generalizing y z with
  | nil=>cases z<;>simp[lists]
  | cons a l ih=>cases y with
    | nil=>simp[lists]at h1
    | cons b m=>cases z with
      | nil=>simp[lists]at h2
      | cons d n=>
        simp only[lists]at *
        by_cases e1:c a b=0
        · obtain rfl:=(h.zero _ _).1 e1
          rw[if_pos e1]at h1
          by_cases e2:c a d=0
          · rw[if_pos e2]at h2 ⊢; exact ih m n h1 h2
          · rw[if_neg e2]at h2 ⊢; exact h2
        · rw[if_neg e1]at h1
          by_cases e2:c b d=0
          · obtain rfl:=(h.zero _ _).1 e2
            rw[if_neg e1];exact h1
          · rw[if_neg e2]at h2
            have:=h.lt_le (x:=a) (y:=b) (z:=d) (by omega) h2
            rw[if_neg (by omega)];omega
end IsCmp
def cmpI (a b:Int):Int:=if a<b then-1 else if b<a then 1 else 0
theorem cmpI_is:IsCmp cmpI where
 range x y:=by unfold cmpI;split;simp;split<;>simp
 neg x y:=by unfold cmpI;repeat' split<;>omega
 zero x y:=by unfold cmpI;constructor<;>intro h<;>(repeat' split at *)<;>omega
 trans x y z h1 h2:=by unfold cmpI at *; repeat' split at * <;>omega
def cmpB (a b:ByteArray):Int:=Lib.compareBytes a.data.toList b.data.toList
theorem bytes_inj {a b:ByteArray}(h:a.data.toList=b.data.toList):a=b:=by
 obtain⟨⟨a⟩⟩:=a
 obtain⟨⟨b⟩⟩:=b
 simp at h
 rw[h]
theorem cmpB_is:IsCmp cmpB where
 range x y:=cb_range _ _
 neg x y:=cb_neg _ _
 zero x y:=(cb_zero _ _).trans ⟨bytes_inj,fun h=>by rw[h]⟩
 trans x y z:=cb_trans _ _ _
def orI:List Int→Int
 | []=>0
 | x::l=>if x=0 then orI l else x
def ndC (x y:Nd):Int:=orI [cmpI x.op y.op,cmpI x.n y.n,cmpB x.s y.s,cmpB x.t y.t]
theorem ndC_is:IsCmp ndC:=by
 have h:=(cmpI_is.both_is (cmpI_is.both_is (cmpB_is.both_is cmpB_is))).map_is (γ :=Nd) (fun x=>(x.op,x.n,x.s,x.t)) (fun x y e=>by
  obtain⟨a,b,c,d⟩:=x
  obtain⟨a',b',c',d'⟩:=y
  simp at e
  simp[e])
 have e:(fun x y:Nd=>IsCmp.both cmpI (IsCmp.both cmpI (IsCmp.both cmpB cmpB)) (x.op,x.n,x.s,x.t) (y.op,y.n,y.s,y.t))=ndC:=by
  funext x y
  simp only[ndC,orI,IsCmp.both]
  repeat' split
  all_goals first | rfl | assumption | (symm;assumption)
 rw[←e];exact h
def lsC:List Nd→List Nd→Int:=IsCmp.lists ndC
theorem lsC_is:IsCmp lsC:=ndC_is.lists_is
def ndOk (x:Nd):Bool:=
 if x.op=1 then x.s.data.toList.isEmpty && x.t.data.toList.isEmpty && (x.n == 0 || x.n == 1)
 else if x.op=2 then x.s.data.toList.isEmpty && x.t.data.toList.isEmpty
 else if x.op=3 then x.n == 0 && x.t.data.toList.isEmpty && textOk x.s.data.toList
 else if x.op=4 then x.n == 0 && nfault x.s.data.toList == 0 && textOk x.t.data.toList
 else if x.op=5∨x.op=6 then x.s.data.toList.isEmpty && x.t.data.toList.isEmpty && decide (0≤x.n)
 else if x.op=7 then x.n == 0 && x.t.data.toList.isEmpty && nfault x.s.data.toList == 0
 else false
def aheadOf (last:Option (List Nd))(part:List Nd):Bool:=
 match last with
 | none=>true
 | some l=>decide (lsC l part<0)
def setLoop (pv:List Nd→Option (List Nd)):Nat→Option (List Nd)→List Nd→Option (List Nd)
 | 0,_,v=>some v
 | k+1,last,v=>
   match pv v with
   | none=>none
   | some rest=>if aheadOf last (v.take (v.length-rest.length))then setLoop pv k (some (v.take (v.length-rest.length))) rest else none
def recLoop (pv:List Nd→Option (List Nd)):Nat→ByteArray→List Nd→Option (List Nd)
 | 0,_,v=>some v
 | _+1,_,[]=>none
 | k+1,last,x::r=>
   if x.op=7∧ndOk x=true∧cmpB last x.s<0 then
    match pv r with
    | none=>none
    | some rest=>recLoop pv k x.s rest
   else none
def pastV:Nat→List Nd→Option (List Nd)
 | 0,_=>none
 | _+1,[]=>none
 | f+1,x::r=>
   if x.op≠7∧ndOk x=true then
    if x.op=5 then setLoop (pastV f) x.n.toNat none r
    else if x.op=6 then recLoop (pastV f) x.n.toNat ⟨#[]⟩ r
    else some r
   else none
def IsTail (r v:List Nd):Prop:=∃a,v=a++r
theorem IsTail.refl (v:List Nd):IsTail v v:=⟨[],rfl⟩
theorem IsTail.trans {a b c:List Nd}(h:IsTail a b)(k:IsTail b c):IsTail a c:=by
 obtain⟨x,rfl⟩:=h
 obtain⟨y,rfl⟩:=k
 exact⟨y++x,by simp⟩
theorem IsTail.cons {a b:List Nd}(x:Nd)(h:IsTail a b):IsTail a (x::b):=by obtain⟨y,rfl⟩:=h;exact⟨x::y,rfl⟩
theorem IsTail.length {a b:List Nd}(h:IsTail a b):a.length≤b.length:=by obtain⟨y,rfl⟩:=h;simp
theorem setLoop_tail {pv:List Nd→Option (List Nd)}(hp:∀v r,pv v=some r→IsTail r v):∀(k:Nat) (last:Option (List Nd)) (v r:List Nd),setLoop pv k last v=some r→IsTail r v
 | 0,last,v,r,h=>by simp only[setLoop,Option.some.injEq]at h;subst h;exact IsTail.refl _
 | k+1,last,v,r,h=>by
   simp only[setLoop]at h
   cases e:pv v with
   | none=>rw[e]at h;cases h
   | some rest=>
     simp only[e]at h
     split at h
     · exact(setLoop_tail hp k _ rest r h).trans (hp _ _ e)
     · cases h
theorem recLoop_tail {pv:List Nd→Option (List Nd)}(hp:∀v r,pv v=some r→IsTail r v):∀(k:Nat) (last:ByteArray) (v r:List Nd),recLoop pv k last v=some r→IsTail r v
 | 0,last,v,r,h=>by simp only[recLoop,Option.some.injEq]at h;subst h;exact IsTail.refl _
 | k+1,last,[],r,h=>by simp[recLoop]at h
 | k+1,last,x::v,r,h=>by
   simp only[recLoop]at h
   split at h
   · cases e:pv v with
     | none=>rw[e]at h;cases h
     | some rest=>
       simp only[e]at h
       exact((recLoop_tail hp k _ rest r h).trans (hp _ _ e)).cons x
   · cases h
theorem pastV_tail:∀(f:Nat) (v r:List Nd),pastV f v=some r→∃x m,v=x::m∧IsTail r m
 | 0,v,r,h=>by simp[pastV]at h
 | f+1,[],r,h=>by simp[pastV]at h
 | f+1,x::m,r,h=>by
   have hp:∀v r,pastV f v=some r→IsTail r v:=fun v r e=>by
    obtain⟨x,m,rfl,ht⟩:=pastV_tail f v r e
    exact ht.cons x
   refine⟨x,m,rfl,?_⟩
   simp only[pastV]at h
   split at h
   · split at h
     · exact setLoop_tail hp _ _ _ _ h
     · split at h
       · exact recLoop_tail hp _ _ _ _ h
       · simp only[Option.some.injEq]at h;subst h;exact IsTail.refl _
   · cases h
theorem pastV_shorter {f:Nat}{v r:List Nd}(h:pastV f v=some r):r.length<v.length∧IsTail r v:=by
 obtain⟨x,m,rfl,ht⟩:=pastV_tail f v r h
 have:=ht.length
 exact⟨by simp;omega,ht.cons x⟩
def isVal (v:List Nd):Bool:=
 match pastV (v.length+1) v with
 | some r=>r.isEmpty
 | none=>false
def vfault (v:List Nd):Int:=if 200<v.length then 4 else if isVal v then 0 else 1
end Go.Proofs.YtgbljlabifpmgaaGreatDoor
namespace Go.Proofs.YtgbljlabifpmgaaGreatDoor
def n64 (x:Nd):Prop:=x.op=2→ -9223372036854775808≤x.n∧x.n≤9223372036854775807
theorem setLoop_same {pv pw:List Nd→Option (List Nd)}{n:Nat}(h:∀u,u.length<n→pv u=pw u)(hs:∀u r,pv u=some r→r.length<u.length):
 ∀(k:Nat) (last:Option (List Nd)) (u:List Nd),u.length<n→setLoop pv k last u=setLoop pw k last u
 | 0,_,_,_=>rfl
 | k+1,last,u,hu=>by
   simp only[setLoop]
   rw[←h u hu]
   cases e:pv u with
   | none=>rfl
   | some rest=>
     simp only[]
     split
     · exact setLoop_same h hs k _ rest (by have:=hs u rest e;omega)
     · rfl
theorem recLoop_same {pv pw:List Nd→Option (List Nd)}{n:Nat}(h:∀u,u.length<n→pv u=pw u)(hs:∀u r,pv u=some r→r.length<u.length):
 ∀(k:Nat) (last:ByteArray) (u:List Nd),u.length<n→recLoop pv k last u=recLoop pw k last u
 | 0,_,_,_=>rfl
 | _+1,_,[],_=>rfl
 | k+1,last,x::u,hu=>by
   simp only[recLoop]
   rw[←h u (by simp at hu;omega)]
   split
   · cases e:pv u with
     | none=>rfl
     | some rest=>
       simp only[]
       exact recLoop_same h hs k _ rest (by have:=hs u rest e;simp at hu;omega)
   · rfl
theorem pastV_fuel:∀(f g:Nat) (u:List Nd),u.length<f→u.length<g→pastV f u=pastV g u
 | 0,_,_,h,_=>absurd h (by omega)
 | _+1,0,_,_,h=>absurd h (by omega)
 | _+1,_+1,[],_,_=>rfl
 | f+1,g+1,x::r,hf,hg=>by
   simp only[List.length_cons]at hf hg
   have h:∀u:List Nd,u.length<r.length+1→pastV f u=pastV g u:=fun u hu=>pastV_fuel f g u (by omega) (by omega)
   have hs:∀u r,pastV f u=some r→r.length<u.length:=fun u r e=>(pastV_shorter e).1
   simp only[pastV]
   rw[setLoop_same h hs _ _ r (by omega),recLoop_same h hs _ _ r (by omega)]
def pastF (f:Nat)(field:Bool)(u:List Nd):Option (List Nd):=
 if field then
  match u with
  | []=>none
  | x::r=>if x.op=7∧ndOk x=true then pastV f r else none
 else pastV f u
def endI (n:Nat):Option (List Nd)→Int
 | none=> -1
 | some r=>(n:Int)-(r.length:Int)
theorem name_ahead {x:Nd}(h7:x.op=7)(h:ndOk x=true):cmpB ⟨#[]⟩ x.s<0:=by
 unfold ndOk at h
 simp[h7]at h
 have hn:=h.2
 unfold cmpB
 cases e:x.s.data.toList with
 | nil=>rw[e]at hn;simp[nfault,nm,pre]at hn
 | cons c l=>simp[Lib.compareBytes]
def prt (x:Nd):Int:=
 if x.op=5∨x.op=6 then x.n
 else if 1≤x.op∧x.op≤4∨x.op=8 then 0
 else if x.op=7∨x.op=9∨x.op=10∨21≤x.op∧x.op≤24 then 1
 else if x.op=13 then 3
 else if 11≤x.op∧x.op≤20∨25≤x.op∧x.op≤27 then 2
 else-1
def rsv (l:List UInt8):Bool:=
 l == [105,102] || l == [116,104,101,110] || l == [101,108,115,101] || l == [116,114,117,101] || l == [102,97,108,115,101] ||
 l == [105,110] || l == [104,97,115] || l == [108,105,107,101] || l == [105,115]
def varOk (l:List UInt8):Bool:=if l.head? =some 63 then nfault l.tail == 0 else nfault l == 0 && !rsv l
def exOk (x:Nd):Bool:=
 if 1≤x.op∧x.op≤7 then ndOk x
 else if prt x<0 then false
 else x.n == 0 && x.t.data.toList.isEmpty &&
  (if x.op=8 then varOk x.s.data.toList
   else if x.op=21∨x.op=22∨x.op=24 then nfault x.s.data.toList == 0
   else if x.op=23 then textOk x.s.data.toList
   else x.s.data.toList.isEmpty)
def partsE (pv:List Nd→Option (List Nd)):Nat→List Nd→Option (List Nd)
 | 0,v=>some v
 | k+1,v=>
   match pv v with
   | none=>none
   | some r=>partsE pv k r
def pastE:Nat→List Nd→Option (List Nd)
 | 0,_=>none
 | _+1,[]=>none
 | f+1,x::r=>
   if x.op≠7∧exOk x=true then
    if x.op=6 then recLoop (pastE f) x.n.toNat ⟨#[]⟩ r
    else partsE (pastE f) (prt x).toNat r
   else none
theorem partsE_tail {pv:List Nd→Option (List Nd)}(hp:∀v r,pv v=some r→IsTail r v):∀(k:Nat) (v r:List Nd),partsE pv k v=some r→IsTail r v
 | 0,v,r,h=>by simp only[partsE,Option.some.injEq]at h;subst h;exact IsTail.refl _
 | k+1,v,r,h=>by
   simp only[partsE]at h
   cases e:pv v with
   | none=>rw[e]at h;cases h
   | some rest=>
     simp only[e]at h
     exact(partsE_tail hp k rest r h).trans (hp _ _ e)
theorem pastE_cons {f:Nat}{v r:List Nd}(h:pastE f v=some r):∃g x m,f=g+1∧v=x::m∧x.op≠7∧exOk x=true∧
 (x.op=6∧recLoop (pastE g) x.n.toNat ⟨#[]⟩ m=some r∨x.op≠6∧partsE (pastE g) (prt x).toNat m=some r):=by
 cases f with
 | zero=>simp[pastE]at h
 | succ g=>
   cases v with
   | nil=>simp[pastE]at h
   | cons x m=>
     simp only[pastE]at h
     split at h
     · rename_i hx
       refine⟨g,x,m,rfl,rfl,hx.1,hx.2,?_⟩
       split at h
       · exact .inl ⟨‹_›, h⟩
       · exact .inr ⟨‹_›, h⟩
     · cases h
theorem pastE_rec {g:Nat}{x:Nd}{m:List Nd}(h7:x.op≠7)(hx:exOk x=true)(h6:x.op=6):pastE (g+1) (x::m)=recLoop (pastE g) x.n.toNat ⟨#[]⟩ m:=by
 simp only[pastE];rw[if_pos ⟨h7,hx⟩,if_pos h6]
theorem pastE_parts {g:Nat}{x:Nd}{m:List Nd}(h7:x.op≠7)(hx:exOk x=true)(h6:x.op≠6):pastE (g+1) (x::m)=partsE (pastE g) (prt x).toNat m:=by
 simp only[pastE];rw[if_pos ⟨h7,hx⟩,if_neg h6]
theorem pastE_bad {g:Nat}{x:Nd}{m:List Nd}(h:¬(x.op≠7∧exOk x=true)):pastE g (x::m)=none:=by
 cases g with
 | zero=>rfl
 | succ g=>simp only[pastE];rw[if_neg h]
theorem pastE_nil (f:Nat):pastE f []=none:=by cases f<;>rfl
theorem pastE_tail:∀(f:Nat) (v r:List Nd),pastE f v=some r→∃x m,v=x::m∧IsTail r m
 | 0,v,r,h=>by simp[pastE]at h
 | f+1,v,r,h=>by
   have hp:∀v r,pastE f v=some r→IsTail r v:=fun v r e=>by
    obtain⟨x,m,rfl,ht⟩:=pastE_tail f v r e
    exact ht.cons x
   obtain⟨g,x,m,e,rfl,_,_,hr⟩:=pastE_cons h
   obtain rfl:f=g:=by omega
   refine⟨x,m,rfl,?_⟩
   rcases hr with⟨_,hr⟩ | ⟨_,hr⟩
   · exact recLoop_tail hp _ _ _ _ hr
   · exact partsE_tail hp _ _ _ hr
theorem pastE_shorter {f:Nat}{v r:List Nd}(h:pastE f v=some r):r.length<v.length∧IsTail r v:=by
 obtain⟨x,m,rfl,ht⟩:=pastE_tail f v r h
 have:=ht.length
 exact⟨by simp;omega,ht.cons x⟩
theorem partsE_same {pv pw:List Nd→Option (List Nd)}{n:Nat}(h:∀u,u.length<n→pv u=pw u)(hs:∀u r,pv u=some r→r.length<u.length):
 ∀(k:Nat) (u:List Nd),u.length<n→partsE pv k u=partsE pw k u
 | 0,_,_=>rfl
 | k+1,u,hu=>by
   simp only[partsE]
   rw[←h u hu]
   cases e:pv u with
   | none=>rfl
   | some rest=>
     simp only[]
     exact partsE_same h hs k rest (by have:=hs u rest e;omega)
theorem pastE_fuel:∀(f g:Nat) (u:List Nd),u.length<f→u.length<g→pastE f u=pastE g u
 | 0,_,_,h,_=>absurd h (by omega)
 | _+1,0,_,_,h=>absurd h (by omega)
 | _+1,_+1,[],_,_=>rfl
 | f+1,g+1,x::r,hf,hg=>by
   simp only[List.length_cons]at hf hg
   have h:∀u:List Nd,u.length<r.length+1→pastE f u=pastE g u:=fun u hu=>pastE_fuel f g u (by omega) (by omega)
   have hs:∀u r,pastE f u=some r→r.length<u.length:=fun u r e=>(pastE_shorter e).1
   simp only[pastE]
   rw[partsE_same h hs _ r (by omega),recLoop_same h hs _ _ r (by omega)]
def isEx (v:List Nd):Bool:=
 match pastE (v.length+1) v with
 | some r=>r.isEmpty
 | none=>false
def xfault (v:List Nd):Int:=if 200<v.length then 4 else if isEx v then 0 else 1
theorem isEx_iff (v:List Nd):isEx v=true↔pastE (v.length+1) v=some []:=by
 unfold isEx
 cases e:pastE (v.length+1) v with
 | none=>simp
 | some r=>cases r<;>simp
theorem xfault_long {v:List Nd}(h:200<v.length):xfault v=4:=if_pos h
theorem xfault_bad {v:List Nd}(h:¬ 200<v.length)(h2:isEx v=false):xfault v=1:=by unfold xfault;rw[if_neg h,h2];rfl
theorem xfault_ok {v:List Nd}(h:¬ 200<v.length)(h2:isEx v=true):xfault v=0:=by unfold xfault;rw[if_neg h,h2];rfl
theorem xfault_zero {v:List Nd}(h:xfault v=0):v.length≤200∧pastE (v.length+1) v=some []:=by
 by_cases h1:200<v.length
 · rw[xfault_long h1]at h;cases h
 · cases h2:isEx v
   · rw[xfault_bad h1 h2]at h;cases h
   · exact⟨by omega,(isEx_iff v).1 h2⟩
theorem partsE_lift {pv pw:List Nd→Option (List Nd)}{φ :List Nd→List Nd}(h:∀v r,pv v=some r→pw (φ v)=some (φ r)):
 ∀(k:Nat) (v r:List Nd),partsE pv k v=some r→partsE pw k (φ v)=some (φ r)
 | 0,v,r,e=>by simp only[partsE,Option.some.injEq]at e ⊢; rw[e]
 | k+1,v,r,e=>by
   simp only[partsE]at e ⊢
   cases e2:pv v with
   | none=>rw[e2]at e;cases e
   | some rest=>
     simp only[e2]at e
     rw[h _ _ e2]
     exact partsE_lift h k rest r e
theorem recLoop_lift {pv pw:List Nd→Option (List Nd)}{φ :List Nd→List Nd}(hc:∀x r,x.op=7→ φ (x::r)=x:: φ r)(h:∀v r,pv v=some r→pw (φ v)=some (φ r)):
 ∀(k:Nat) (last:ByteArray) (v r:List Nd),recLoop pv k last v=some r→recLoop pw k last (φ v)=some (φ r)
 | 0,last,v,r,e=>by simp only[recLoop,Option.some.injEq]at e ⊢; rw[e]
 | k+1,last,[],r,e=>by simp[recLoop]at e
 | k+1,last,x::v,r,e=>by
   simp only[recLoop]at e
   split at e
   · rename_i hx
     rw[hc x v hx.1]
     simp only[recLoop]
     rw[if_pos hx]
     cases e2:pv v with
     | none=>rw[e2]at e;cases e
     | some rest=>
       simp only[e2]at e
       rw[h _ _ e2]
       exact recLoop_lift hc h k _ rest r e
   · cases e
theorem pastE_more:∀(f:Nat) (v r:List Nd),pastE f v=some r→pastE (f+1) v=some r
 | 0,v,r,h=>by simp[pastE]at h
 | f+1,v,r,h=>by
   obtain⟨g,x,m,e,rfl,h7,hx,hr⟩:=pastE_cons h
   obtain rfl:f=g:=by omega
   rcases hr with⟨h6,hr⟩ | ⟨h6,hr⟩
   · rw[pastE_rec h7 hx h6]
     exact recLoop_lift (φ :=id) (fun _ _ _=>rfl) (pastE_more f) _ _ _ _ hr
   · rw[pastE_parts h7 hx h6]
     exact partsE_lift (φ :=id) (pastE_more f) _ _ _ hr
theorem pastE_mono {f g:Nat}{v r:List Nd}(h:pastE f v=some r)(hg:f≤g):pastE g v=some r:=by
 obtain⟨d,rfl⟩:∃d,g=f+d:=⟨g-f,by omega⟩
 clear hg
 induction d with
 | zero=>exact h
 | succ d ih=>exact pastE_more _ _ _ ih
theorem pastE_any {f g:Nat}{v r:List Nd}(h:pastE f v=some r)(hg:v.length<g):pastE g v=some r:=by
 by_cases hf:f≤g
 · exact pastE_mono h hf
 · rw[←pastE_fuel f g v (by omega) hg];exact h
theorem pastE_append (z:List Nd):∀(f:Nat) (v r:List Nd),pastE f v=some r→pastE f (v++z)=some (r++z)
 | 0,v,r,h=>by simp[pastE]at h
 | f+1,v,r,h=>by
   obtain⟨g,x,m,e,rfl,h7,hx,hr⟩:=pastE_cons h
   obtain rfl:f=g:=by omega
   rw[List.cons_append]
   rcases hr with⟨h6,hr⟩ | ⟨h6,hr⟩
   · rw[pastE_rec h7 hx h6]
     exact recLoop_lift (φ :=(· ++z)) (fun _ _ _=>rfl) (pastE_append z f) _ _ _ _ hr
   · rw[pastE_parts h7 hx h6]
     exact partsE_lift (φ :=(· ++z)) (pastE_append z f) _ _ _ hr
def isV (s:ByteArray)(x:Nd):Bool:=x.op == 8 && x.s.data.toList == s.data.toList
theorem isV_iff (s:ByteArray)(x:Nd):isV s x=true↔x.op=8∧x.s=s:=by
 unfold isV
 rw[Bool.and_eq_true,beq_iff_eq,beq_iff_eq]
 exact⟨fun h=>⟨h.1,bytes_inj h.2⟩,fun h=>⟨h.1,by rw[h.2]⟩⟩
def rep (s:ByteArray)(V:List Nd)(x:Nd):List Nd:=if isV s x then V else[x]
def putE (s:ByteArray)(V:List Nd)(e:List Nd):List Nd:=e.flatMap (rep s V)
def cntV (s:ByteArray)(e:List Nd):Nat:=e.countP (isV s)
theorem putE_nil (s:ByteArray)(V:List Nd):putE s V []=[]:=rfl
theorem putE_cons (s:ByteArray)(V:List Nd)(x:Nd)(e:List Nd):putE s V (x::e)=rep s V x++putE s V e:=by unfold putE;rw[List.flatMap_cons]
theorem putE_append (s:ByteArray)(V a b:List Nd):putE s V (a++b)=putE s V a++putE s V b:=by unfold putE;rw[List.flatMap_append]
theorem rep_no {s:ByteArray}{V:List Nd}{x:Nd}(h:isV s x=false):rep s V x=[x]:=by unfold rep;rw[h];rfl
theorem rep_yes {s:ByteArray}{V:List Nd}{x:Nd}(h:isV s x=true):rep s V x=V:=by unfold rep;rw[h];rfl
theorem isV_op {s:ByteArray}{x:Nd}(h:x.op≠8):isV s x=false:=by
 cases e:isV s x with
 | false=>rfl
 | true=>exact absurd ((isV_iff s x).1 e).1 h
theorem putE_length (s:ByteArray)(V e:List Nd):(putE s V e).length+cntV s e=e.length+cntV s e*V.length:=by
 induction e with
 | nil=>simp[putE,cntV]
 | cons x e ih=>
   rw[putE_cons,List.length_append]
   unfold cntV at *
   rw[List.countP_cons,List.length_cons]
   cases h:isV s x
   · rw[rep_no h];simp;omega
   · rw[rep_yes h];simp[Nat.add_mul];omega
theorem putE_none {s:ByteArray}{V e:List Nd}(h:∀x∈e,isV s x=false):putE s V e=e:=by
 induction e with
 | nil=>rfl
 | cons x e ih=>
   rw[putE_cons,rep_no (h x (by simp)),ih (fun y hy=>h y (by simp[hy]))];rfl
theorem putE_le (s:ByteArray)(V:List Nd){a b:List Nd}:(putE s V a).length≤(putE s V (a++b)).length:=by
 rw[putE_append,List.length_append];omega
theorem pastE_put (s:ByteArray){V:List Nd}{F:Nat}(hV:pastE F V=some []):∀(f:Nat) (v r:List Nd),pastE f v=some r→pastE (f+F) (putE s V v)=some (putE s V r)
 | 0,v,r,h=>by simp[pastE]at h
 | f+1,v,r,h=>by
   obtain⟨g,x,m,e,rfl,h7,hx,hr⟩:=pastE_cons h
   obtain rfl:f=g:=by omega
   rw[putE_cons]
   cases hs:isV s x with
   | true=>
     have h8:=((isV_iff s x).1 hs).1
     rw[rep_yes hs]
     rcases hr with⟨h6,hr⟩ | ⟨h6,hr⟩
     · omega
     · have:(prt x).toNat=0:=by unfold prt;rw[if_neg (by omega),if_pos (by omega)];rfl
       rw[this]at hr
       simp only[partsE,Option.some.injEq]at hr
       subst hr
       exact pastE_mono (pastE_append (putE s V m) F V [] hV) (by omega)
   | false=>
     rw[rep_no hs,show f+1+F=(f+F)+1 by omega]
     rcases hr with⟨h6,hr⟩ | ⟨h6,hr⟩
     · show pastE (f+F+1) (x::putE s V m)=_
       rw[pastE_rec h7 hx h6]
       exact recLoop_lift (fun y r h=>by rw[putE_cons,rep_no (isV_op (by omega))];rfl) (pastE_put s hV f) _ _ _ _ hr
     · show pastE (f+F+1) (x::putE s V m)=_
       rw[pastE_parts h7 hx h6]
       exact partsE_lift (pastE_put s hV f) _ _ _ hr
theorem put_isEx {s:ByteArray}{e V:List Nd}(he:xfault e=0)(hV:xfault V=0)(hl:(putE s V e).length≤200):xfault (putE s V e)=0:=by
 have h1:=(xfault_zero he).2
 have h2:=(xfault_zero hV).2
 have h3:=pastE_put s h2 _ _ _ h1
 exact xfault_ok (by omega) ((isEx_iff _).2 (pastE_any h3 (Nat.lt_succ_self _)))
theorem partsE_all {pv:List Nd→Option (List Nd)}{q:Nd→Prop}(h:∀v r,pv v=some r→∃a,v=a++r∧∀x∈a,q x):
 ∀(k:Nat) (v r:List Nd),partsE pv k v=some r→∃a,v=a++r∧∀x∈a,q x
 | 0,v,r,e=>by simp only[partsE,Option.some.injEq]at e;subst e;exact⟨[],rfl,fun x hx=>by cases hx⟩
 | k+1,v,r,e=>by
   simp only[partsE]at e
   cases e2:pv v with
   | none=>rw[e2]at e;cases e
   | some rest=>
     simp only[e2]at e
     obtain⟨a,rfl,ha⟩:=h _ _ e2
     obtain⟨b,rfl,hb⟩:=partsE_all h k rest r e
     exact⟨a++b,by simp,fun x hx=>(List.mem_append.1 hx).elim (ha x) (hb x)⟩
theorem recLoop_all {pv:List Nd→Option (List Nd)}{q:Nd→Prop}(h7:∀x,x.op=7→ndOk x=true→q x)(h:∀v r,pv v=some r→∃a,v=a++r∧∀x∈a,q x):
 ∀(k:Nat) (last:ByteArray) (v r:List Nd),recLoop pv k last v=some r→∃a,v=a++r∧∀x∈a,q x
 | 0,last,v,r,e=>by simp only[recLoop,Option.some.injEq]at e;subst e;exact⟨[],rfl,fun x hx=>by cases hx⟩
 | k+1,last,[],r,e=>by simp[recLoop]at e
 | k+1,last,y::v,r,e=>by
   simp only[recLoop]at e
   split at e
   · rename_i hy
     cases e2:pv v with
     | none=>rw[e2]at e;cases e
     | some rest=>
       simp only[e2]at e
       obtain⟨a,rfl,ha⟩:=h _ _ e2
       obtain⟨b,rfl,hb⟩:=recLoop_all h7 h k _ rest r e
       refine⟨y::(a++b),by simp,fun x hx=>?_⟩
       rcases List.mem_cons.1 hx with rfl | hx
       · exact h7 _ hy.1 hy.2.1
       · exact(List.mem_append.1 hx).elim (ha x) (hb x)
   · cases e
theorem exOk_field {x:Nd}(h:x.op=7)(h2:ndOk x=true):exOk x=true:=by unfold exOk;rw[if_pos (by omega)];exact h2
theorem pastE_all:∀(f:Nat) (v r:List Nd),pastE f v=some r→∃a,v=a++r∧∀x∈a,exOk x=true
 | 0,v,r,h=>by simp[pastE]at h
 | f+1,v,r,h=>by
   obtain⟨g,x,m,e,rfl,h7,hx,hr⟩:=pastE_cons h
   obtain rfl:f=g:=by omega
   have:∃a,m=a++r∧∀x∈a,exOk x=true:=by
    rcases hr with⟨h6,hr⟩ | ⟨h6,hr⟩
    · exact recLoop_all (fun x=>exOk_field) (pastE_all f) _ _ _ _ hr
    · exact partsE_all (pastE_all f) _ _ _ hr
   obtain⟨a,rfl,ha⟩:=this
   exact⟨x::a,rfl,fun y hy=>by
    rcases List.mem_cons.1 hy with rfl | hy
    · exact hx
    · exact ha y hy⟩
theorem xfault_all {v:List Nd}(h:xfault v=0):∀x∈v,exOk x=true:=by
 obtain⟨a,e,ha⟩:=pastE_all _ _ _ (xfault_zero h).2
 rw[List.append_nil]at e
 subst e
 exact ha
theorem var_ne {x:Nd}(h:exOk x=true)(h8:x.op=8):x.s.data.toList≠[]:=by
 intro e
 unfold exOk at h
 rw[if_neg (by omega)]at h
 simp[h8,prt,e,varOk,nfault,nm,pre]at h
theorem tail_of_tails {u r v:List Nd}(h1:IsTail u v)(h2:IsTail r v)(h:u.length≤r.length):IsTail u r:=by
 obtain⟨a,rfl⟩:=h1
 obtain⟨b,e⟩:=h2
 have:=List.suffix_of_suffix_length_le (l₃ :=a++u) ⟨a,rfl⟩ ⟨b,e.symm⟩ h
 obtain⟨c,hc⟩:=this
 exact⟨c,hc.symm⟩
theorem partsE_at {pv:List Nd→Option (List Nd)}{q:List Nd→Prop}(hs:∀v r,pv v=some r→IsTail r v)(h:∀v r,pv v=some r→∀u,IsTail u v→r.length<u.length→q u):
 ∀(k:Nat) (v r:List Nd),partsE pv k v=some r→∀u,IsTail u v→r.length<u.length→q u
 | 0,v,r,e,u,hu,hl=>by
   simp only[partsE,Option.some.injEq]at e
   subst e
   have:=hu.length
   omega
 | k+1,v,r,e,u,hu,hl=>by
   simp only[partsE]at e
   cases e2:pv v with
   | none=>rw[e2]at e;cases e
   | some rest=>
     simp only[e2]at e
     by_cases hlt:rest.length<u.length
     · exact h _ _ e2 u hu hlt
     · exact partsE_at hs h k rest r e u (tail_of_tails hu (hs _ _ e2) (by omega)) hl
theorem recLoop_at {pv:List Nd→Option (List Nd)}{q:List Nd→Prop}(hq:∀x r,x.op=7→q (x::r))(hs:∀v r,pv v=some r→IsTail r v)(h:∀v r,pv v=some r→∀u,IsTail u v→r.length<u.length→q u):
 ∀(k:Nat) (last:ByteArray) (v r:List Nd),recLoop pv k last v=some r→∀u,IsTail u v→r.length<u.length→q u
 | 0,last,v,r,e,u,hu,hl=>by
   simp only[recLoop,Option.some.injEq]at e
   subst e
   have:=hu.length
   omega
 | k+1,last,[],r,e,u,hu,hl=>by simp[recLoop]at e
 | k+1,last,y::v,r,e,u,hu,hl=>by
   simp only[recLoop]at e
   split at e
   · rename_i hy
     cases e2:pv v with
     | none=>rw[e2]at e;cases e
     | some rest=>
       simp only[e2]at e
       by_cases hul:u.length=v.length+1
       · obtain⟨a,ha⟩:=hu
         have:a=[]:=by
          have hh:=congrArg List.length ha
          rw[List.length_append,List.length_cons]at hh
          exact List.eq_nil_of_length_eq_zero (by omega)
         subst this
         rw[List.nil_append]at ha
         subst ha
         exact hq y v hy.1
       · have hu2:IsTail u v:=tail_of_tails hu ⟨[y],rfl⟩ (by have:=hu.length;simp at this;omega)
         by_cases hlt:rest.length<u.length
         · exact h _ _ e2 u hu2 hlt
         · exact recLoop_at hq hs h k _ rest r e u (tail_of_tails hu2 (hs _ _ e2) (by omega)) hl
   · cases e
def begins (u:List Nd):Prop:=(∃x r,u=x::r∧x.op=7)∨∃f r,pastE f u=some r
theorem pastE_at:∀(f:Nat) (v r:List Nd),pastE f v=some r→∀u,IsTail u v→r.length<u.length→begins u
 | 0,v,r,h,u,hu,hl=>by simp[pastE]at h
 | f+1,v,r,h,u,hu,hl=>by
   have h0:=h
   obtain⟨g,x,m,e,rfl,h7,hx,hr⟩:=pastE_cons h
   obtain rfl:f=g:=by omega
   by_cases hul:u.length=m.length+1
   · obtain⟨a,ha⟩:=hu
     have:a=[]:=by
      have hh:=congrArg List.length ha
      rw[List.length_append,List.length_cons]at hh
      exact List.eq_nil_of_length_eq_zero (by omega)
     subst this
     rw[List.nil_append]at ha
     subst ha
     exact .inr ⟨_,_,h0⟩
   · have hu2:IsTail u m:=tail_of_tails hu ⟨[x],rfl⟩ (by have:=hu.length;simp at this;omega)
     have hs:∀v r,pastE f v=some r→IsTail r v:=fun v r e=>(pastE_shorter e).2
     rcases hr with⟨h6,hr⟩ | ⟨h6,hr⟩
     · exact recLoop_at (fun x r h=>.inl ⟨x,r,rfl,h⟩) hs (pastE_at f) _ _ _ _ hr u hu2 hl
     · exact partsE_at hs (pastE_at f) _ _ _ hr u hu2 hl
theorem ex_at {v:List Nd}(h:xfault v=0){k:Nat}(hk:k<v.length)(h7:v[k].op≠7):∃r,pastE (v.length+1) (v.drop k)=some r:=by
 have hp:=(xfault_zero h).2
 have:=pastE_at _ _ _ hp (v.drop k) ⟨v.take k,(List.take_append_drop k v).symm⟩ (by simp;omega)
 rcases this with⟨x,r,e,hx⟩ | ⟨f,r,e⟩
 · rw[List.drop_eq_getElem_cons hk]at e
   injection e with e1 e2
   rw[e1]at h7
   exact absurd hx h7
 · exact⟨r,pastE_any e (by simp;omega)⟩
theorem setLoop_parts {pv pw:List Nd→Option (List Nd)}(h:∀v r,pv v=some r→pw v=some r):∀(k:Nat) (last:Option (List Nd)) (v r:List Nd),setLoop pv k last v=some r→partsE pw k v=some r
 | 0,last,v,r,e=>by simp only[setLoop,Option.some.injEq]at e;simp only[partsE];rw[e]
 | k+1,last,v,r,e=>by
   simp only[setLoop]at e
   simp only[partsE]
   cases e2:pv v with
   | none=>rw[e2]at e;cases e
   | some rest=>
     simp only[e2]at e
     rw[h _ _ e2]
     split at e
     · exact setLoop_parts h k _ rest r e
     · cases e
theorem ndOk_op {x:Nd}(h:ndOk x=true):1≤x.op∧x.op≤7:=by
 unfold ndOk at h
 by_cases h1:x.op=1; · omega
 by_cases h2:x.op=2; · omega
 by_cases h3:x.op=3; · omega
 by_cases h4:x.op=4; · omega
 by_cases h5:x.op=5; · omega
 by_cases h6:x.op=6; · omega
 by_cases h7:x.op=7; · omega
 simp[h1,h2,h3,h4,h5,h6,h7]at h
theorem exOk_value {x:Nd}(h:ndOk x=true):exOk x=true:=by unfold exOk;rw[if_pos (ndOk_op h)];exact h
theorem pastV_pastE:∀(f:Nat) (v r:List Nd),pastV f v=some r→pastE f v=some r
 | 0,v,r,h=>by simp[pastV]at h
 | f+1,[],r,h=>by simp[pastV]at h
 | f+1,x::m,r,h=>by
   simp only[pastV]at h
   split at h
   · rename_i hx
     have hop:=ndOk_op hx.2
     by_cases h5:x.op=5
     · rw[if_pos h5]at h
       rw[pastE_parts hx.1 (exOk_value hx.2) (by omega)]
       have:prt x=x.n:=by unfold prt;rw[if_pos (.inl h5)]
       rw[this]
       exact setLoop_parts (pastV_pastE f) _ _ _ _ h
     · rw[if_neg h5]at h
       by_cases h6:x.op=6
       · rw[if_pos h6]at h
         rw[pastE_rec hx.1 (exOk_value hx.2) h6]
         exact recLoop_lift (φ :=id) (fun _ _ _=>rfl) (pastV_pastE f) _ _ _ _ h
       · rw[if_neg h6]at h
         rw[pastE_parts hx.1 (exOk_value hx.2) h6]
         have:(prt x).toNat=0:=by unfold prt;rw[if_neg (by omega),if_pos (by omega)];rfl
         rw[this]
         exact h
   · cases h
theorem setLoop_all {pv:List Nd→Option (List Nd)}{q:Nd→Prop}(h:∀v r,pv v=some r→∃a,v=a++r∧∀x∈a,q x):
 ∀(k:Nat) (last:Option (List Nd)) (v r:List Nd),setLoop pv k last v=some r→∃a,v=a++r∧∀x∈a,q x
 | 0,last,v,r,e=>by simp only[setLoop,Option.some.injEq]at e;subst e;exact⟨[],rfl,fun x hx=>by cases hx⟩
 | k+1,last,v,r,e=>by
   simp only[setLoop]at e
   cases e2:pv v with
   | none=>rw[e2]at e;cases e
   | some rest=>
     simp only[e2]at e
     split at e
     · obtain⟨a,e3,ha⟩:=h _ _ e2
       obtain⟨b,e4,hb⟩:=setLoop_all h k _ rest r e
       refine⟨a++b,by rw[e3,e4];simp,fun x hx=>(List.mem_append.1 hx).elim (ha x) (hb x)⟩
     · cases e
theorem pastV_all:∀(f:Nat) (v r:List Nd),pastV f v=some r→∃a,v=a++r∧∀x∈a,ndOk x=true
 | 0,v,r,h=>by simp[pastV]at h
 | f+1,[],r,h=>by simp[pastV]at h
 | f+1,x::m,r,h=>by
   simp only[pastV]at h
   split at h
   · rename_i hx
     have:∃a,m=a++r∧∀x∈a,ndOk x=true:=by
      split at h
      · exact setLoop_all (pastV_all f) _ _ _ _ h
      · split at h
        · exact recLoop_all (fun x _ h=>h) (pastV_all f) _ _ _ _ h
        · simp only[Option.some.injEq]at h;subst h;exact⟨[],rfl,fun x hx=>by cases hx⟩
     obtain⟨a,rfl,ha⟩:=this
     exact⟨x::a,rfl,fun y hy=>by
      rcases List.mem_cons.1 hy with rfl | hy
      · exact hx.2
      · exact ha y hy⟩
   · cases h
theorem vfault_zero {v:List Nd}(h:vfault v=0):v.length≤200∧pastV (v.length+1) v=some []:=by
 unfold vfault at h
 split at h
 · cases h
 · split at h
   · rename_i h1 h2
     unfold isVal at h2
     refine⟨by omega,?_⟩
     cases e:pastV (v.length+1) v with
     | none=>rw[e]at h2;cases h2
     | some r=>rw[e]at h2;cases r with
       | nil=>rfl
       | cons y r=>cases h2
   · cases h
theorem value_ex {v:List Nd}(h:vfault v=0):xfault v=0:=by
 obtain⟨h1,h2⟩:=vfault_zero h
 exact xfault_ok (by omega) ((isEx_iff v).2 (pastV_pastE _ _ _ h2))
theorem value_novar {v:List Nd}(h:vfault v=0):∀x∈v,x.op≠8:=by
 obtain⟨a,e,ha⟩:=pastV_all _ _ _ (vfault_zero h).2
 rw[List.append_nil]at e
 subst e
 intro x hx
 have:=ndOk_op (ha x hx)
 omega
def Tk.l (t:Tk):List UInt8:=t.s.data.toList
def nam (t:Tk)(s:List UInt8):Bool:=t.kind == 1 && t.l == s
def sgn (t:Tk)(s:List UInt8):Bool:=t.kind == 5 && t.l == s
def wIf:List UInt8:=[105,102]
def wThen:List UInt8:=[116,104,101,110]
def wElse:List UInt8:=[101,108,115,101]
def wTrue:List UInt8:=[116,114,117,101]
def wFalse:List UInt8:=[102,97,108,115,101]
def wIn:List UInt8:=[105,110]
def wHas:List UInt8:=[104,97,115]
def wLike:List UInt8:=[108,105,107,101]
def wIs:List UInt8:=[105,115]
def wOne:List UInt8:=[99,111,110,116,97,105,110,115]
def wAll:List UInt8:=wOne++[65,108,108]
def wAny:List UInt8:=wOne++[65,110,121]
def wLast:List UInt8:=[122,122,122,122,122,122,122,122,122,122,122,122,122,122,122,122,122,122,122,122]
def comR (nm:List UInt8)(t:Tk):Bool:=sgn t [44] && !(nm == wLast)
def relS (t:Tk):Bool:=sgn t [61,61] || sgn t [60] || sgn t [60,61] || nam t wIn
def hasS (t:Tk):Bool:=nam t wHas || nam t wIs
def sumS (t:Tk):Bool:=sgn t [43] || sgn t [45]
def ands (t:Tk):Bool:=sgn t [38,38]
def ors (t:Tk):Bool:=sgn t [124,124]
structure PS where
 want:Nat
 opn:List Nat
 rel:List Bool
 last:List (List UInt8)
def PS.to (s:PS)(w:Nat):PS:=⟨w,s.opn,s.rel,s.last⟩
def PS.push (s:PS)(o:Nat):PS:=⟨1,o::s.opn,false::s.rel,[]::s.last⟩
def PS.pop (s:PS):PS:=⟨3,s.opn.tail,s.rel.tail,s.last.tail⟩
def PS.put (s:PS)(b:Bool):PS:=⟨s.want,s.opn,b::s.rel.tail,s.last⟩
def PS.had (s:PS):Bool:=s.rel.headD false
def doneO:List Nat→List Bool→List (List UInt8)→Tk→Option PS
 | [],_,_,_=>none
 | top::o,rel,last,t=>
   if (top == 1 && nam t wThen || top == 2 && nam t wElse)=true then some ⟨1,(top+1)::o,false::rel.tail,[]::last.tail⟩
   else if (top == 3)=true then doneO o rel.tail last.tail t
   else if (top == 4 && sgn t [41] || top == 5 && sgn t [93] || top == 6 && sgn t [125])=true then some ⟨3,o,rel.tail,last.tail⟩
   else if (top == 5 && sgn t [44])=true then some ⟨1,top::o,false::rel.tail,last⟩
   else if (top == 6 && comR (last.headD []) t)=true then some ⟨8,top::o,false::rel.tail,last⟩
   else none
def PS.done (s:PS)(t:Tk):Option PS:=doneO s.opn s.rel s.last t
def PS.atom (s:PS)(t:Tk):Option PS:=
 if (t.kind == 2 || t.kind == 3 || t.kind == 4)=true then some (s.to 3)
 else if (t.kind == 1)=true then(if (t.l == wTrue || t.l == wFalse || !rsv t.l)=true then some (s.to 14)else some (s.to 11))
 else if (t.l == [33])=true then some (s.to 2)
 else if (t.l == [45])=true then some (s.to 4)
 else if (t.l == [40])=true then some (s.push 4)
 else if (t.l == [91])=true then some ((s.push 5).to 12)
 else if (t.l == [123])=true then some ((s.push 6).to 8)
 else none
def PS.after (s:PS)(t:Tk):Option PS:=
 if (!(s.want == 10) && sgn t [46])=true then some (s.to 5)
 else if (!(s.want == 10) && (sumS t || sgn t [42]))=true then some (s.to 2)
 else if (!(s.want == 10) && !s.had && relS t)=true then some ((s.put true).to 2)
 else if (!(s.want == 10) && !s.had && hasS t)=true then some ((s.put true).to 6)
 else if (!(s.want == 10) && !s.had && nam t wLike)=true then some ((s.put true).to 7)
 else if (ands t || ors t)=true then some ((s.put false).to 2)
 else s.done t
def PS.key (s:PS)(t b:Tk):Option PS:=
 if (sgn t [125] && sgn b [123])=true then some s.pop
 else if (t.kind == 1 && decide (Lib.compareBytes (s.last.headD []) t.l<0))=true then some ⟨9,s.opn,s.rel,t.l::s.last.tail⟩
 else none
def PS.whole (s:PS)(t:Tk):Option PS:=
 if nam t wIf=true then some (s.to 15)else if (s.want == 12 && sgn t [93])=true then some s.pop else s.atom t
def PS.next (s:PS)(t b:Tk):Option PS:=
 if (s.want == 1 || s.want == 12)=true then s.whole t
 else if (s.want == 15)=true then(if sgn t [58,58]=true then some (s.to 7)else(s.push 1).whole t)
 else if (s.want == 2 || s.want == 4)=true then s.atom t
 else if (s.want == 5)=true then(if (t.kind == 1)=true then(if (t.l == wOne || t.l == wAll || t.l == wAny)=true then some (s.to 13)else some (s.to 3))else none)
 else if (s.want == 13)=true then(if sgn t [40]=true then some (s.push 4)else(s.to 3).after t)
 else if (s.want == 6)=true then(if (t.kind == 1)=true then some (s.to 10)else none)
 else if (s.want == 7)=true then(if (t.kind == 3)=true then(if sgn b [58,58]=true then some (s.to 3)else some (s.to 10))else none)
 else if (s.want == 11 || s.want == 14)=true then(if sgn t [58,58]=true then some (s.to 7)else if (s.want == 11)=true then none else(s.to 3).after t)
 else if (s.want == 8)=true then s.key t b
 else if (s.want == 9)=true then(if sgn t [58]=true then some (s.to 1)else none)
 else s.after t
def great (t:Tk)(minus:Bool):Bool:=
 t.l.length == 19 && decide (0<Lib.compareBytes t.l (if minus then[57,50,50,51,51,55,50,48,51,54,56,53,52,55,55,53,56,48,56]else[57,50,50,51,51,55,50,48,51,54,56,53,52,55,55,53,56,48,55]))
def PS.fin (s:PS):Bool:=(s.want == 3 || s.want == 10 || s.want == 14 || s.want == 13) && s.opn.all (· == 3)
def acc:PS→Tk→List Tk→Option (Nat×Int)
 | s,_,[]=>if s.fin=true then none else some (0,1)
 | s,b,t::r=>
   match s.next t b with
   | none=>some (r.length+1,1)
   | some s'=>if (t.kind == 2 && great t (s.want == 4))=true then some (r.length+1,5)else acc s' t r
def kOk (t:Tk):Bool:=t.kind == 1 || t.kind == 2 || t.kind == 3 || t.kind == 4 || t.kind == 5
def stp (o:Option PS)(g:Bool)(t:Tk)(r:List Tk):Option (Nat×Int):=
 match o with
 | none=>some (r.length+1,1)
 | some s'=>if g=true then some (r.length+1,5)else acc s' t r
def accB (s:PS)(mn:Bool):List Tk→Option (Nat×Int)
 | []=>some (0,1)
 | t::r=>stp (s.atom t) (t.kind == 2 && great t mn) t r
def accE (s:PS):Option (Nat×Int):=if (s.opn.all (· == 3))=true then none else some (0,1)
def accA (s:PS):List Tk→Option (Nat×Int)
 | []=>accE s
 | t::r=>stp ((s.to 3).after t) false t r
def accR (s:PS):List Tk→Option (Nat×Int)
 | []=>accE s
 | t::r=>stp (if (ands t || ors t)=true then some ((s.put false).to 2)else s.done t) false t r
def accW (s:PS):List Tk→Option (Nat×Int)
 | []=>accE s
 | t::r=>stp (s.done t) false t r
def mkN (op n:Int)(s t:List UInt8):Nd:=⟨op,n,⟨s.toArray⟩,⟨t.toArray⟩⟩
def opN (op:Int):Nd:=mkN op 0 [] []
def digV (l:List UInt8):Int:=l.foldl (fun n c=>n*10+((c.toNat:Int)-48)) 0
def numN (t:Tk)(minus:Bool):Nd:=mkN 2 (if minus then-digV t.l else digV t.l) [] []
def opOf (t:Tk):Int:=
 if t.l == [124,124]then 12 else if t.l == [38,38]then 11 else if t.l == [61,61]then 14 else if t.l == [60]then 15 else if t.l == [60,61]then 16
 else if t.l == wIn then 20 else if t.l == [43]then 17 else if t.l == [45]then 18 else 19
def lvlS (lvl:Nat)(t:Tk):Bool:=
 if lvl=1 then ors t else if lvl=2 then ands t else if lvl=4 then sumS t else sgn t [42]
def isCall (t:Tk):Bool:=t.l == wOne || t.l == wAll || t.l == wAny
def callOp (t:Tk):Int:=if t.l == wAll then 26 else if t.l == wAny then 27 else 25
def nextS (l:List Tk)(s:List UInt8):Bool:=match l with | []=>false | t::_=>sgn t s
def nextNum (l:List Tk):Bool:=match l with | []=>false | t::_=>t.kind == 2
def andR (a:Option (Except (Nat×Int) (List Nd×List Tk)))(f:List Nd→List Tk→Option (Except (Nat×Int) (List Nd×List Tk))):Option (Except (Nat×Int) (List Nd×List Tk)):=
 match a with
 | none=>none
 | some (.error e)=>some (.error e)
 | some (.ok x)=>f x.1 x.2
def must (p:Tk→Bool)(l:List Tk)(f:Tk→List Tk→Option (Except (Nat×Int) (List Nd×List Tk))):Option (Except (Nat×Int) (List Nd×List Tk)):=
 match l with
 | []=>some (.error (0,1))
 | t::r=>if p t=true then f t r else some (.error (r.length+1,1))
mutual
def pE:Nat→Nat→List Tk→Option (Except (Nat×Int) (List Nd×List Tk))
 | 0,_,_=>none
 | n+1,lvl,l=>
   if lvl=0 then
    match l with
    | []=>pE n 1 []
    | t::r=>
      if (nam t wIf && !nextS r [58,58])=true then
       andR (pE n 0 r) fun a r1=>must (fun u=>nam u wThen) r1 fun _ r2=>andR (pE n 0 r2) fun b r3=>must (fun u=>nam u wElse) r3 fun _ r4=>
        andR (pE n 0 r4) fun c r5=>some (.ok (opN 13::(a++(b++c)),r5))
      else pE n 1 (t::r)
   else if lvl=1∨lvl=2∨lvl=4∨lvl=5 then andR (pE n (lvl+1) l) fun a r=>pL n lvl a r
   else if lvl=3 then
    andR (pE n 4 l) fun a r=>
     match r with
     | []=>some (.ok (a,[]))
     | t::r1=>
       if relS t=true then andR (pE n 4 r1) fun b r2=>some (.ok (opN (opOf t)::(a++b),r2))
       else if hasS t=true then must (fun u=>u.kind == 1) r1 fun u r2=>some (.ok (mkN (if nam t wHas=true then 21 else 24) 0 u.l []::a,r2))
       else if nam t wLike=true then must (fun u=>u.kind == 3) r1 fun u r2=>some (.ok (mkN 23 0 u.l []::a,r2))
       else some (.ok (a,t::r1))
   else if lvl=6 then
    match l with
    | []=>pE n 7 []
    | t::r=>
      if sgn t [33]=true then andR (pE n 6 r) fun a r1=>some (.ok (opN 9::a,r1))
      else if (sgn t [45] && !nextNum r)=true then andR (pE n 6 r) fun a r1=>some (.ok (opN 10::a,r1))
      else pE n 7 (t::r)
   else if lvl=7 then andR (pE n 8 l) fun a r=>pP n a r
   else
    match l with
    | []=>some (.error (0,1))
    | t::r=>
      if (t.kind == 2)=true then(if great t false=true then some (.error (r.length+1,5))else some (.ok ([numN t false],r)))
      else if (t.kind == 3)=true then some (.ok ([mkN 3 0 t.l []],r))
      else if (t.kind == 4)=true then some (.ok ([mkN 8 0 (63::t.l) []],r))
      else if (t.kind == 1)=true then
       (if nextS r [58,58]=true then must (fun u=>u.kind == 3) r.tail fun u r2=>some (.ok ([mkN 4 0 t.l u.l],r2))
        else if (t.l == wTrue)=true then some (.ok ([mkN 1 1 [] []],r))
        else if (t.l == wFalse)=true then some (.ok ([mkN 1 0 [] []],r))
        else if rsv t.l=true then some (.error (r.length,1))
        else some (.ok ([mkN 8 0 t.l []],r)))
      else if (t.l == [45])=true then must (fun u=>u.kind == 2) r fun u r2=>(if great u true=true then some (.error (r2.length+1,5))else some (.ok ([numN u true],r2)))
      else if (t.l == [40])=true then andR (pE n 0 r) fun a r1=>must (fun u=>sgn u [41]) r1 fun _ r2=>some (.ok (a,r2))
      else if (t.l == [91])=true then(if nextS r [93]=true then some (.ok ([mkN 5 0 [] []],r.tail))else pS n 0 [] r)
      else if (t.l == [123])=true then(if nextS r [125]=true then some (.ok ([mkN 6 0 [] []],r.tail))else pK n 0 [] [] r)
      else some (.error (r.length+1,1))
def pL:Nat→Nat→List Nd→List Tk→Option (Except (Nat×Int) (List Nd×List Tk))
 | 0,_,_,_=>none
 | n+1,lvl,a,l=>
   match l with
   | []=>some (.ok (a,[]))
   | t::r=>if lvlS lvl t=true then andR (pE n (lvl+1) r) fun b r1=>pL n lvl (opN (opOf t)::(a++b)) r1 else some (.ok (a,t::r))
def pP:Nat→List Nd→List Tk→Option (Except (Nat×Int) (List Nd×List Tk))
 | 0,_,_=>none
 | n+1,a,l=>
   match l with
   | []=>some (.ok (a,[]))
   | t::r=>
     if sgn t [46]=true then must (fun u=>u.kind == 1) r fun u r1=>
      (if (isCall u && nextS r1 [40])=true then andR (pE n 0 r1.tail) fun b r2=>must (fun v=>sgn v [41]) r2 fun _ r3=>pP n (opN (callOp u)::(a++b)) r3
       else pP n (mkN 22 0 u.l []::a) r1)
     else some (.ok (a,t::r))
def pS:Nat→Nat→List Nd→List Tk→Option (Except (Nat×Int) (List Nd×List Tk))
 | 0,_,_,_=>none
 | n+1,k,acc,l=>
   andR (pE n 0 l) fun a r=>
    match r with
    | []=>some (.error (0,1))
    | t::r1=>if sgn t [93]=true then some (.ok (mkN 5 ((k:Int)+1) [] []::(acc++a),r1))else if sgn t [44]=true then pS n (k+1) (acc++a) r1 else some (.error (r1.length+1,1))
def pK:Nat→Nat→List UInt8→List Nd→List Tk→Option (Except (Nat×Int) (List Nd×List Tk))
 | 0,_,_,_,_=>none
 | n+1,k,last,acc,l=>
   must (fun u=>u.kind == 1 && decide (Lib.compareBytes last u.l<0)) l fun u r0=>must (fun v=>sgn v [58]) r0 fun _ r1=>
    andR (pE n 0 r1) fun a r=>
     match r with
     | []=>some (.error (0,1))
     | t::r2=>if sgn t [125]=true then some (.ok (mkN 6 ((k:Int)+1) [] []::(acc++(mkN 7 0 u.l []::a)),r2))else if comR u.l t=true then pK n (k+1) u.l (acc++(mkN 7 0 u.l []::a)) r2 else some (.error (r2.length+1,1))
end
def AllK (l:List Tk):Prop:=∀t∈l,kOk t=true
theorem AllK.tail {t:Tk}{r:List Tk}(h:AllK (t::r)):AllK r:=fun u hu=>h u (List.mem_cons_of_mem _ hu)
theorem AllK.head {t:Tk}{r:List Tk}(h:AllK (t::r)):kOk t=true:=h t List.mem_cons_self
theorem sgn_kind {t:Tk}{a:List UInt8}(h:sgn t a=true):t.kind=5∧t.l=a:=by
 unfold sgn at h;rw[Bool.and_eq_true]at h;exact⟨by simpa using h.1,by simpa using h.2⟩
theorem nam_kind {t:Tk}{a:List UInt8}(h:nam t a=true):t.kind=1∧t.l=a:=by
 unfold nam at h;rw[Bool.and_eq_true]at h;exact⟨by simpa using h.1,by simpa using h.2⟩
theorem sgn_off {t:Tk}(h:t.kind≠5)(a:List UInt8):sgn t a=false:=by
 unfold sgn;have:(t.kind == 5)=false:=by simpa using h
 rw[this];rfl
theorem nam_off {t:Tk}(h:t.kind≠1)(a:List UInt8):nam t a=false:=by
 unfold nam;have:(t.kind == 1)=false:=by simpa using h
 rw[this];rfl
theorem sgn_ne {t:Tk}{a b:List UInt8}(h:sgn t a=true)(hab:a≠b):sgn t b=false:=by
 obtain⟨_,h2⟩:=sgn_kind h
 unfold sgn;have:(t.l == b)=false:=by rw[h2];simpa using hab
 rw[this];simp
theorem nam_ne {t:Tk}{a b:List UInt8}(h:nam t a=true)(hab:a≠b):nam t b=false:=by
 obtain⟨_,h2⟩:=nam_kind h
 unfold nam;have:(t.l == b)=false:=by rw[h2];simpa using hab
 rw[this];simp
theorem nam_sgn {t:Tk}{a:List UInt8}(h:nam t a=true)(b:List UInt8):sgn t b=false:=sgn_off (by rw[(nam_kind h).1];decide) b
theorem sgn_nam {t:Tk}{a:List UInt8}(h:sgn t a=true)(b:List UInt8):nam t b=false:=nam_off (by rw[(sgn_kind h).1];decide) b
theorem doneO_put (o:List Nat)(b:Bool)(rel:List Bool)(last:List (List UInt8))(t:Tk):doneO o (b::rel.tail) last t=doneO o rel last t:=by
 cases o with
 | nil=>rfl
 | cons top o=>simp only[doneO,List.tail_cons]
theorem done_put (s:PS)(b:Bool)(t:Tk):(s.put b).done t=s.done t:=doneO_put _ _ _ _ _
theorem done_to (s:PS)(w:Nat)(t:Tk):(s.to w).done t=s.done t:=rfl
theorem doneO_kind:∀(o:List Nat) (rel:List Bool) (last:List (List UInt8)) (t:Tk),t.kind=2→doneO o rel last t=none
 | [],_,_,_,_=>rfl
 | top::o,rel,last,t,h=>by
   have h1:∀a,sgn t a=false:=sgn_off (by rw[h];decide)
   have h2:∀a,nam t a=false:=nam_off (by rw[h];decide)
   simp only[doneO,comR,h1,h2,Bool.false_and,Bool.and_false,Bool.or_false,Bool.false_eq_true,if_false]
   split
   · exact doneO_kind o _ _ t h
   · rfl
theorem done_kind {s s':PS}{t:Tk}(h:s.done t=some s'):(t.kind == 2)=false:=by
 cases e:(t.kind == 2)with
 | false=>rfl
 | true=>unfold PS.done at h;rw[doneO_kind _ _ _ _ (by simpa using e)]at h;cases h
theorem after_kind {s s':PS}{t:Tk}(h:s.after t=some s'):(t.kind == 2)=false:=by
 cases e:(t.kind == 2)with
 | false=>rfl
 | true=>
   have h5:t.kind=2:=by simpa using e
   have h1:∀a,sgn t a=false:=sgn_off (by rw[h5];decide)
   have h2:∀a,nam t a=false:=nam_off (by rw[h5];decide)
   unfold PS.after sumS relS hasS ands ors PS.done at h
   simp only[h1,h2,Bool.or_false,Bool.and_false,Bool.false_eq_true,if_false,doneO_kind _ _ _ _ h5]at h
   cases h
theorem acc_nil (s:PS)(b:Tk):acc s b []=if s.fin=true then none else some (0,1):=rfl
theorem acc_cons (s:PS)(b t:Tk)(r:List Tk):acc s b (t::r)=stp (s.next t b) (t.kind == 2 && great t (s.want == 4)) t r:=rfl
theorem accB_cons (s:PS)(mn:Bool)(t:Tk)(r:List Tk):accB s mn (t::r)=stp (s.atom t) (t.kind == 2 && great t mn) t r:=rfl
theorem accA_cons (s:PS)(t:Tk)(r:List Tk):accA s (t::r)=stp ((s.to 3).after t) false t r:=rfl
theorem accW_cons (s:PS)(t:Tk)(r:List Tk):accW s (t::r)=stp (s.done t) false t r:=rfl
theorem accR_cons (s:PS)(t:Tk)(r:List Tk):accR s (t::r)=stp (if (ands t || ors t)=true then some ((s.put false).to 2)else s.done t) false t r:=rfl
theorem stp_off {o:Option PS}{g:Bool}{t:Tk}{r:List Tk}(h:∀s',o=some s'→g=false):stp o g t r=stp o false t r:=by
 cases o with
 | none=>rfl
 | some s'=>rw[h s' rfl]
theorem stp_some (s':PS)(t:Tk)(r:List Tk):stp (some s') false t r=acc s' t r:=rfl
theorem stp_none (g:Bool)(t:Tk)(r:List Tk):stp none g t r=some (r.length+1,1):=rfl
theorem off_kind {t:Tk}{x:Bool}(h:(t.kind == 2)=false):(t.kind == 2 && x)=false:=by rw[h];rfl
theorem acc_two (s:PS)(b:Tk)(l:List Tk):acc (s.to 2) b l=accB s false l:=by
 cases l with
 | nil=>rfl
 | cons t r=>rfl
theorem acc_four (s:PS)(b:Tk)(l:List Tk)(h:nextNum l=false):acc (s.to 4) b l=accB s false l:=by
 cases l with
 | nil=>rfl
 | cons t r=>
   have hk:(t.kind == 2)=false:=h
   rw[acc_cons,accB_cons,off_kind hk,off_kind hk]
   rfl
theorem acc_three (s:PS)(b:Tk)(l:List Tk):acc (s.to 3) b l=accA s l:=by
 cases l with
 | nil=>rw[acc_nil];unfold accA accE PS.fin;simp[PS.to]
 | cons t r=>
   rw[acc_cons,accA_cons]
   exact stp_off (o:=(s.to 3).after t) (fun s' h=>off_kind (after_kind h))
theorem acc_name (s:PS)(b:Tk)(l:List Tk)(h:nextS l [58,58]=false):acc (s.to 14) b l=accA s l:=by
 cases l with
 | nil=>rw[acc_nil];unfold accA accE PS.fin;simp[PS.to]
 | cons t r=>
   have hs:sgn t [58,58]=false:=h
   rw[acc_cons,accA_cons]
   have e:(s.to 14).next t b=(s.to 3).after t:=by
    show(if sgn t [58,58]=true then _ else _)=_
    rw[hs];rfl
   rw[e]
   exact stp_off (fun s' h=>off_kind (after_kind h))
theorem acc_open (s:PS)(b:Tk)(l:List Tk)(h:nextS l [40]=false):acc (s.to 13) b l=accA s l:=by
 cases l with
 | nil=>rw[acc_nil];unfold accA accE PS.fin;simp[PS.to]
 | cons t r=>
   have hs:sgn t [40]=false:=h
   rw[acc_cons,accA_cons]
   have e:(s.to 13).next t b=(s.to 3).after t:=by
    show(if sgn t [40]=true then _ else _)=_
    rw[hs];rfl
   rw[e]
   exact stp_off (fun s' h=>off_kind (after_kind h))
theorem after_ten (s:PS)(t:Tk):(s.to 10).after t=if (ands t || ors t)=true then some ((s.put false).to 2)else s.done t:=by
 unfold PS.after
 have e:((s.to 10).want == 10)=true:=rfl
 simp only[e,Bool.not_true,Bool.false_and,Bool.false_eq_true,if_false]
 rfl
theorem acc_ten (s:PS)(b:Tk)(l:List Tk):acc (s.to 10) b l=accR s l:=by
 cases l with
 | nil=>rw[acc_nil];unfold accR accE PS.fin;simp[PS.to]
 | cons t r=>
   rw[acc_cons,accR_cons,←after_ten]
   exact stp_off (o:=(s.to 10).after t) (fun s' h=>off_kind (after_kind h))
theorem whole_plain (s:PS)(w:Nat)(t:Tk)(h:(w == 12 && sgn t [93])=false):(s.to w).whole t=if nam t wIf=true then some (s.to 15)else s.atom t:=by
 unfold PS.whole
 have e:((s.to w).want == 12 && sgn t [93])=false:=h
 rw[e];rfl
theorem acc_first (s:PS)(b:Tk)(l:List Tk)(h:nextS l [93]=false):acc (s.to 12) b l=acc (s.to 1) b l:=by
 cases l with
 | nil=>rfl
 | cons t r=>
   have hs:sgn t [93]=false:=h
   rw[acc_cons,acc_cons]
   have e1:(s.to 12).next t b=(s.to 12).whole t:=rfl
   have e2:(s.to 1).next t b=(s.to 1).whole t:=rfl
   rw[e1,e2,whole_plain _ _ _ (by rw[hs];rfl),whole_plain _ _ _ (by rw[hs];rfl)]
   rfl
theorem acc_if (s:PS)(b c:Tk)(l:List Tk)(h:nextS l [58,58]=false):acc (s.to 15) b l=acc (s.push 1) c l:=by
 cases l with
 | nil=>rfl
 | cons t r=>
   have hs:sgn t [58,58]=false:=h
   rw[acc_cons,acc_cons]
   have e:(s.to 15).next t b=(s.push 1).next t c:=by
    show(if sgn t [58,58]=true then _ else _)=_
    rw[hs];rfl
   rw[e]
   rfl
theorem put_put (s:PS)(a b:Bool):(s.put a).put b=s.put b:=rfl
theorem accR_put (s:PS)(b:Bool)(l:List Tk):accR (s.put b) l=accR s l:=by
 cases l with
 | nil=>rfl
 | cons t r=>rw[accR_cons,accR_cons,done_put,put_put]
theorem accW_put (s:PS)(b:Bool)(l:List Tk):accW (s.put b) l=accW s l:=by
 cases l with
 | nil=>rfl
 | cons t r=>rw[accW_cons,accW_cons,done_put]
def stopA (t:Tk):Bool:=sgn t [46] || sumS t || sgn t [42]
theorem after_three (s:PS)(t:Tk)(h:stopA t=false):(s.to 3).after t=
 if (!s.had && relS t)=true then some ((s.put true).to 2)else if (!s.had && hasS t)=true then some ((s.put true).to 6)else if (!s.had && nam t wLike)=true then some ((s.put true).to 7)
 else if (ands t || ors t)=true then some ((s.put false).to 2)else s.done t:=by
 unfold stopA at h
 simp only[Bool.or_eq_false_iff]at h
 unfold PS.after
 have e:((s.to 3).want == 10)=false:=rfl
 simp only[e,h.1.1,h.1.2,h.2,Bool.not_false,Bool.true_and,Bool.or_false,Bool.false_eq_true,if_false]
 rfl
def SimR (X:Option (Nat×Int))(Y:List Tk→Option (Nat×Int))(stop:Tk→Bool)(R:Option (Except (Nat×Int) (List Nd×List Tk))):Prop:=
 (∀e,R=some (.error e)→X=some e)∧∀x,R=some (.ok x)→X=Y x.2∧(∀t r,x.2=t::r→stop t=false)∧AllK x.2
theorem SimR.none {X:Option (Nat×Int)}{Y:List Tk→Option (Nat×Int)}{stop:Tk→Bool}:SimR X Y stop none:=⟨fun _ h=>(by cases h),fun _ h=>(by cases h)⟩
theorem SimR.err {X:Option (Nat×Int)}{Y:List Tk→Option (Nat×Int)}{stop:Tk→Bool}{e:Nat×Int}(h:X=some e):SimR X Y stop (some (.error e)):=
 ⟨fun e' he=>by injection he with he;injection he with he;rw[←he];exact h,fun _ h=>(by cases h)⟩
theorem SimR.ok {X:Option (Nat×Int)}{Y:List Tk→Option (Nat×Int)}{stop:Tk→Bool}{a:List Nd}{r:List Tk}(h:X=Y r)(hs:∀t r',r=t::r'→stop t=false)(hk:AllK r):SimR X Y stop (some (.ok (a,r))):=
 ⟨fun _ h=>(by cases h),fun x hx=>by injection hx with hx;injection hx with hx;subst hx;exact⟨h,hs,hk⟩⟩
theorem SimR.and {X:Option (Nat×Int)}{Y Y':List Tk→Option (Nat×Int)}{stop stop':Tk→Bool}{A:Option (Except (Nat×Int) (List Nd×List Tk))}{f:List Nd→List Tk→Option (Except (Nat×Int) (List Nd×List Tk))}
 (hA:SimR X Y stop A) (hf:∀a r,(∀t r',r=t::r'→stop t=false)→AllK r→SimR (Y r) Y' stop' (f a r)):SimR X Y' stop' (andR A f):=by
 unfold andR
 match A,hA with
 | Option.none,_=>exact SimR.none
 | some (.error e),hA=>exact SimR.err (hA.1 e rfl)
 | some (.ok x),hA=>
   obtain⟨h1,h2,h3⟩:=hA.2 x rfl
   rw[h1]
   exact hf x.1 x.2 h2 h3
theorem SimR.need {X:Option (Nat×Int)}{Y:List Tk→Option (Nat×Int)}{stop:Tk→Bool}{p:Tk→Bool}{l:List Tk}{f:Tk→List Tk→Option (Except (Nat×Int) (List Nd×List Tk))}
 (h0:l=[]→X=some (0,1)) (h1:∀t r,l=t::r→p t=false→X=some (r.length+1,1)) (h2:∀t r,l=t::r→p t=true→SimR X Y stop (f t r)):SimR X Y stop (must p l f):=by
 unfold must
 cases l with
 | nil=>exact SimR.err (h0 rfl)
 | cons t r=>
   cases hp:p t with
   | true=>simp only[hp,if_true];exact h2 t r rfl hp
   | false=>simp only[hp,Bool.false_eq_true,if_false];exact SimR.err (h1 t r rfl hp)
theorem SimR.eqX {X X':Option (Nat×Int)}{Y:List Tk→Option (Nat×Int)}{stop:Tk→Bool}{R:Option (Except (Nat×Int) (List Nd×List Tk))}(h:X=X')(k:SimR X' Y stop R):SimR X Y stop R:=by rw[h];exact k
theorem SimR.eqY {X:Option (Nat×Int)}{Y Y':List Tk→Option (Nat×Int)}{stop stop':Tk→Bool}{R:Option (Except (Nat×Int) (List Nd×List Tk))}
 (h:∀r,(∀t r',r=t::r'→stop t=false)→Y r=Y' r∧∀t r',r=t::r'→stop' t=false) (k:SimR X Y stop R):SimR X Y' stop' R:=
 ⟨k.1,fun x hx=>by obtain⟨h1,h2,h3⟩:=k.2 x hx;obtain⟨g1,g2⟩:=h x.2 h2;exact⟨h1.trans g1,g2,h3⟩⟩
def noSign (l:List Tk):Prop:=∀t r,l=t::r→sgn t [33]=false∧(sgn t [45]=true→nextNum r=true)
def st8:Tk→Bool:=fun _=>false
def st7:Tk→Bool:=fun t=>sgn t [46]
def st5:Tk→Bool:=fun t=>sgn t [46] || sgn t [42]
def st2:Tk→Bool:=fun t=>ands t
def st1:Tk→Bool:=fun t=>ands t || ors t
structure Sim (n:Nat):Prop where
 whole:∀s b l,AllK l→s.had=false→SimR (acc (s.to 1) b l) (accW s) st8 (pE n 0 l)
 either:∀s l,AllK l→s.had=false→SimR (accB s false l) (accW s) st8 (pE n 1 l)
 both:∀s l,AllK l→s.had=false→SimR (accB s false l) (accR s) st2 (pE n 2 l)
 rel:∀s l,AllK l→s.had=false→SimR (accB s false l) (accR s) st8 (pE n 3 l)
 sum:∀s l,AllK l→SimR (accB s false l) (accA s) stopA (pE n 4 l)
 prod:∀s l,AllK l→SimR (accB s false l) (accA s) st5 (pE n 5 l)
 sign:∀s l,AllK l→SimR (accB s false l) (accA s) st7 (pE n 6 l)
 post:∀s l,AllK l→noSign l→SimR (accB s false l) (accA s) st7 (pE n 7 l)
 atom:∀s l,AllK l→noSign l→SimR (accB s false l) (accA s) st8 (pE n 8 l)
 ors1:∀s a l,AllK l→(∀t r,l=t::r→st2 t=false)→SimR (accR s l) (accW s) st8 (pL n 1 a l)
 ands2:∀s a l,AllK l→SimR (accR s l) (accR s) st2 (pL n 2 a l)
 sums4:∀s a l,AllK l→(∀t r,l=t::r→st5 t=false)→SimR (accA s l) (accA s) stopA (pL n 4 a l)
 prods5:∀s a l,AllK l→(∀t r,l=t::r→st7 t=false)→SimR (accA s l) (accA s) st5 (pL n 5 a l)
 posts:∀s a l,AllK l→SimR (accA s l) (accA s) st7 (pP n a l)
 sets:∀s b k a l,AllK l→SimR (acc ((s.push 5).to 1) b l) (accA s) st8 (pS n k a l)
 keys:∀s b k nm a l,AllK l→(∀t r,l=t::r→(sgn t [125] && sgn b [123])=false)→SimR (acc ⟨8,6::s.opn,false::s.rel,nm::s.last⟩ b l) (accA s) st8 (pK n k nm a l)
theorem sim_zero:Sim 0:=by
 constructor<;>intros<;>(first | rw[pE] | rw[pL] | rw[pP] | rw[pS] | rw[pK])<;>exact SimR.none
theorem put_had (s:PS)(b:Bool):(s.put b).had=b:=rfl
theorem push_had (s:PS)(o:Nat):(s.push o).had=false:=rfl
theorem push_to (s:PS)(o:Nat):(s.push o).to 1=s.push o:=rfl
theorem pL_nil (n lvl:Nat)(a:List Nd):pL (n+1) lvl a []=some (.ok (a,[])):=by rw[pL.eq_def]
theorem sim_either {n:Nat}(h:Sim n)(s:PS)(l:List Tk)(hk:AllK l)(hh:s.had=false):SimR (accB s false l) (accW s) st8 (pE (n+1) 1 l):=by
 have e:pE (n+1) 1 l=andR (pE n 2 l) fun a r=>pL n 1 a r:=by rw[pE.eq_def];first | done | rfl
 rw[e]
 exact SimR.and (h.both s l hk hh) fun a r h1 h2=>h.ors1 s a r h2 h1
theorem sim_both {n:Nat}(h:Sim n)(s:PS)(l:List Tk)(hk:AllK l)(hh:s.had=false):SimR (accB s false l) (accR s) st2 (pE (n+1) 2 l):=by
 have e:pE (n+1) 2 l=andR (pE n 3 l) fun a r=>pL n 2 a r:=by rw[pE.eq_def];first | done | rfl
 rw[e]
 exact SimR.and (h.rel s l hk hh) fun a r h1 h2=>h.ands2 s a r h2
theorem sim_sum {n:Nat}(h:Sim n)(s:PS)(l:List Tk)(hk:AllK l):SimR (accB s false l) (accA s) stopA (pE (n+1) 4 l):=by
 have e:pE (n+1) 4 l=andR (pE n 5 l) fun a r=>pL n 4 a r:=by rw[pE.eq_def];first | done | rfl
 rw[e]
 exact SimR.and (h.prod s l hk) fun a r h1 h2=>h.sums4 s a r h2 h1
theorem sim_prod {n:Nat}(h:Sim n)(s:PS)(l:List Tk)(hk:AllK l):SimR (accB s false l) (accA s) st5 (pE (n+1) 5 l):=by
 have e:pE (n+1) 5 l=andR (pE n 6 l) fun a r=>pL n 5 a r:=by rw[pE.eq_def];first | done | rfl
 rw[e]
 exact SimR.and (h.sign s l hk) fun a r h1 h2=>h.prods5 s a r h2 h1
theorem sim_post {n:Nat}(h:Sim n)(s:PS)(l:List Tk)(hk:AllK l)(hn:noSign l):SimR (accB s false l) (accA s) st7 (pE (n+1) 7 l):=by
 have e:pE (n+1) 7 l=andR (pE n 8 l) fun a r=>pP n a r:=by rw[pE.eq_def];first | done | rfl
 rw[e]
 exact SimR.and (h.atom s l hk hn) fun a r h1 h2=>h.posts s a r h2
theorem sim_ors1 {n:Nat}(h:Sim n)(s:PS)(a:List Nd)(l:List Tk)(hk:AllK l)(hs:∀t r,l=t::r→st2 t=false):SimR (accR s l) (accW s) st8 (pL (n+1) 1 a l):=by
 cases l with
 | nil=>rw[pL_nil];exact SimR.ok rfl (fun t r' h=>by cases h) hk
 | cons t r=>
   have ha:ands t=false:=hs t r rfl
   cases ho:ors t with
   | true=>
     have e:pL (n+1) 1 a (t::r)=andR (pE n 2 r) fun b r1=>pL n 1 (opN (opOf t)::(a++b)) r1:=by rw[pL.eq_def];simp only[lvlS,ho,if_true]
     rw[e]
     refine SimR.eqX ?_ (SimR.and (h.both (s.put false) r hk.tail rfl) fun b r1 h1 h2=>?_)
     · rw[accR_cons,ho,Bool.or_true,if_pos rfl,stp_some,acc_two]
     · rw[accR_put]
       exact h.ors1 s _ r1 h2 h1
   | false=>
     have e:pL (n+1) 1 a (t::r)=some (.ok (a,t::r)):=by rw[pL.eq_def];simp only[lvlS,ho,if_true,Bool.false_eq_true,if_false]
     rw[e]
     refine SimR.ok ?_ (fun _ _ _=>rfl) hk
     rw[accR_cons,accW_cons,ha,ho]
     rfl
theorem sim_ands2 {n:Nat}(h:Sim n)(s:PS)(a:List Nd)(l:List Tk)(hk:AllK l):SimR (accR s l) (accR s) st2 (pL (n+1) 2 a l):=by
 cases l with
 | nil=>rw[pL_nil];exact SimR.ok rfl (fun t r' h=>by cases h) hk
 | cons t r=>
   cases ho:ands t with
   | true=>
     have e:pL (n+1) 2 a (t::r)=andR (pE n 3 r) fun b r1=>pL n 2 (opN (opOf t)::(a++b)) r1:=by rw[pL.eq_def];simp[lvlS,ho]
     rw[e]
     refine SimR.eqX ?_ (SimR.and (h.rel (s.put false) r hk.tail rfl) fun b r1 h1 h2=>?_)
     · rw[accR_cons,ho,Bool.true_or,if_pos rfl,stp_some,acc_two]
     · rw[accR_put]
       exact h.ands2 s _ r1 h2
   | false=>
     have e:pL (n+1) 2 a (t::r)=some (.ok (a,t::r)):=by rw[pL.eq_def];simp[lvlS,ho]
     rw[e]
     exact SimR.ok rfl (fun t' r' h'=>by injection h' with h1 _;rw[←h1];exact ho) hk
theorem sim_sums4 {n:Nat}(h:Sim n)(s:PS)(a:List Nd)(l:List Tk)(hk:AllK l)(hs:∀t r,l=t::r→st5 t=false):SimR (accA s l) (accA s) stopA (pL (n+1) 4 a l):=by
 cases l with
 | nil=>rw[pL_nil];exact SimR.ok rfl (fun t r' h=>by cases h) hk
 | cons t r=>
   have h5:=hs t r rfl
   unfold st5 at h5
   rw[Bool.or_eq_false_iff]at h5
   cases ho:sumS t with
   | true=>
     have e:pL (n+1) 4 a (t::r)=andR (pE n 5 r) fun b r1=>pL n 4 (opN (opOf t)::(a++b)) r1:=by rw[pL.eq_def];simp[lvlS,ho]
     rw[e]
     refine SimR.eqX ?_ (SimR.and (h.prod s r hk.tail) fun b r1 h1 h2=>h.sums4 s _ r1 h2 h1)
     have e2:(s.to 3).after t=some (s.to 2):=by
      unfold PS.after
      have e3:((s.to 3).want == 10)=false:=rfl
      rw[e3,h5.1,ho];rfl
     rw[accA_cons,e2,stp_some,acc_two]
   | false=>
     have e:pL (n+1) 4 a (t::r)=some (.ok (a,t::r)):=by rw[pL.eq_def];simp[lvlS,ho]
     rw[e]
     exact SimR.ok rfl (fun t' r' h'=>by injection h' with h1 _;rw[←h1];unfold stopA;rw[h5.1,h5.2,ho];rfl) hk
theorem sim_prods5 {n:Nat}(h:Sim n)(s:PS)(a:List Nd)(l:List Tk)(hk:AllK l)(hs:∀t r,l=t::r→st7 t=false):SimR (accA s l) (accA s) st5 (pL (n+1) 5 a l):=by
 cases l with
 | nil=>rw[pL_nil];exact SimR.ok rfl (fun t r' h=>by cases h) hk
 | cons t r=>
   have h7:sgn t [46]=false:=hs t r rfl
   cases ho:sgn t [42]with
   | true=>
     have e:pL (n+1) 5 a (t::r)=andR (pE n 6 r) fun b r1=>pL n 5 (opN (opOf t)::(a++b)) r1:=by rw[pL.eq_def];simp[lvlS,ho]
     rw[e]
     refine SimR.eqX ?_ (SimR.and (h.sign s r hk.tail) fun b r1 h1 h2=>h.prods5 s _ r1 h2 h1)
     have e2:(s.to 3).after t=some (s.to 2):=by
      unfold PS.after
      have e3:((s.to 3).want == 10)=false:=rfl
      rw[e3,h7,ho,Bool.or_true];rfl
     rw[accA_cons,e2,stp_some,acc_two]
   | false=>
     have e:pL (n+1) 5 a (t::r)=some (.ok (a,t::r)):=by rw[pL.eq_def];simp[lvlS,ho]
     rw[e]
     exact SimR.ok rfl (fun t' r' h'=>by injection h' with h1 _;rw[←h1];unfold st5;rw[h7,ho];rfl) hk
theorem rel_stop {t:Tk}(h:relS t=true):(t.kind == 2)=false∧hasS t=false∧nam t wLike=false∧ands t=false∧ors t=false:=by
 unfold relS at h
 simp only[Bool.or_eq_true]at h
 rcases h with((h | h) | h) | h
 · exact⟨by rw[(sgn_kind h).1];rfl,by unfold hasS;rw[sgn_nam h,sgn_nam h];rfl,sgn_nam h _,sgn_ne h (by decide),sgn_ne h (by decide)⟩
 · exact⟨by rw[(sgn_kind h).1];rfl,by unfold hasS;rw[sgn_nam h,sgn_nam h];rfl,sgn_nam h _,sgn_ne h (by decide),sgn_ne h (by decide)⟩
 · exact⟨by rw[(sgn_kind h).1];rfl,by unfold hasS;rw[sgn_nam h,sgn_nam h];rfl,sgn_nam h _,sgn_ne h (by decide),sgn_ne h (by decide)⟩
 · exact⟨by rw[(nam_kind h).1];rfl,by unfold hasS;rw[nam_ne h (by decide),nam_ne h (by decide)];rfl,nam_ne h (by decide),nam_sgn h _,nam_sgn h _⟩
theorem accA_had (s:PS)(l:List Tk)(hs:∀t r,l=t::r→stopA t=false):accA (s.put true) l=accR s l:=by
 cases l with
 | nil=>rfl
 | cons t r=>
   have h:=hs t r rfl
   rw[accA_cons,accR_cons]
   rw[show((s.put true).to 3).after t=_ from after_three (s.put true) t h]
   rw[put_had,put_put,done_put]
   simp only[Bool.not_true,Bool.false_and,Bool.false_eq_true,if_false]
   rfl
theorem sim_rel {n:Nat}(h:Sim n)(s:PS)(l:List Tk)(hk:AllK l)(hh:s.had=false):SimR (accB s false l) (accR s) st8 (pE (n+1) 3 l):=by
 have e:pE (n+1) 3 l=andR (pE n 4 l) fun a r=>
  match r with
  | []=>some (.ok (a,[]))
  | t::r1=>
    if relS t=true then andR (pE n 4 r1) fun b r2=>some (.ok (opN (opOf t)::(a++b),r2))
    else if hasS t=true then must (fun u=>u.kind == 1) r1 fun u r2=>some (.ok (mkN (if nam t wHas=true then 21 else 24) 0 u.l []::a,r2))
    else if nam t wLike=true then must (fun u=>u.kind == 3) r1 fun u r2=>some (.ok (mkN 23 0 u.l []::a,r2))
    else some (.ok (a,t::r1)):=by rw[pE.eq_def];first | done | rfl
 rw[e]
 refine SimR.and (h.sum s l hk) fun a r h1 h2=>?_
 cases r with
 | nil=>exact SimR.ok rfl (fun _ _ _=>rfl) h2
 | cons t r1=>
   have hst:=h1 t r1 rfl
   have ha:=after_three s t hst
   rw[hh]at ha
   simp only[Bool.not_false,Bool.true_and]at ha
   simp only
   by_cases c1:relS t=true
   · rw[if_pos c1]at ha
     rw[if_pos c1]
     refine SimR.eqX (X':=accB (s.put true) false r1) ?_ ?_
     · rw[accA_cons,ha,stp_some,acc_two]
     · refine SimR.and (h.sum (s.put true) r1 h2.tail) fun b r2 g1 g2=>?_
       exact SimR.ok (accA_had s r2 g1) (fun _ _ _=>rfl) g2
   · rw[if_neg c1]at ha
     rw[if_neg c1]
     by_cases c2:hasS t=true
     · rw[if_pos c2]at ha
       rw[if_pos c2]
       refine SimR.need ?_ ?_ ?_
       · intro e;subst e;rw[accA_cons,ha,stp_some];rfl
       · intro u r2 e hu;subst e
         rw[accA_cons,ha,stp_some,acc_cons]
         have:((s.put true).to 6).next u t=none:=by
          show(if (u.kind == 1)=true then _ else _)=_
          rw[show(u.kind == 1)=false from hu];rfl
         rw[this];rfl
       · intro u r2 e hu;subst e
         refine SimR.ok ?_ (fun _ _ _=>rfl) h2.tail.tail
         rw[accA_cons,ha,stp_some,acc_cons]
         have hk1:u.kind=1:=by simpa using hu
         have:((s.put true).to 6).next u t=some ((s.put true).to 10):=by
          show(if (u.kind == 1)=true then _ else _)=_
          rw[show(u.kind == 1)=true from hu];rfl
         rw[this,off_kind (by rw[hk1];rfl),stp_some,acc_ten,accR_put]
     · rw[if_neg c2]at ha
       rw[if_neg c2]
       by_cases c3:nam t wLike=true
       · rw[if_pos c3]at ha
         rw[if_pos c3]
         refine SimR.need ?_ ?_ ?_
         · intro e;subst e;rw[accA_cons,ha,stp_some];rfl
         · intro u r2 e hu;subst e
           rw[accA_cons,ha,stp_some,acc_cons]
           have:((s.put true).to 7).next u t=none:=by
            show(if (u.kind == 3)=true then _ else _)=_
            rw[show(u.kind == 3)=false from hu];rfl
           rw[this];rfl
         · intro u r2 e hu;subst e
           refine SimR.ok ?_ (fun _ _ _=>rfl) h2.tail.tail
           rw[accA_cons,ha,stp_some,acc_cons]
           have hk1:u.kind=3:=by simpa using hu
           have:((s.put true).to 7).next u t=some ((s.put true).to 10):=by
            show(if (u.kind == 3)=true then(if sgn t [58,58]=true then _ else _)else _)=_
            rw[show(u.kind == 3)=true from hu,nam_sgn c3];rfl
           rw[this,off_kind (by rw[hk1];rfl),stp_some,acc_ten,accR_put]
       · rw[if_neg c3]at ha
         rw[if_neg c3]
         refine SimR.ok ?_ (fun _ _ _=>rfl) h2
         rw[accA_cons,ha,accR_cons]
theorem accE_push (s:PS)(o:Nat)(h:(o == 3)=false):accE (s.push o)=some (0,1):=by
 unfold accE PS.push
 simp only[List.all_cons,h,Bool.false_and,Bool.false_eq_true,if_false]
theorem accW_else (s:PS)(l:List Tk):accW (s.push 3) l=accW s l:=by
 cases l with
 | nil=>unfold accW accE PS.push;simp
 | cons t r=>
   rw[accW_cons,accW_cons]
   congr 1
theorem done_then (s:PS)(t:Tk):(s.push 1).done t=if nam t wThen=true then some (s.push 2)else none:=by
 unfold PS.done PS.push doneO
 cases h:nam t wThen
 · simp
 · simp
theorem done_other (s:PS)(t:Tk):(s.push 2).done t=if nam t wElse=true then some (s.push 3)else none:=by
 unfold PS.done PS.push doneO
 cases h:nam t wElse
 · simp
 · simp
theorem done_round (s:PS)(t:Tk):(s.push 4).done t=if sgn t [41]=true then some (s.to 3)else none:=by
 unfold PS.done PS.push doneO
 cases h:sgn t [41]
 · simp
 · simp[PS.to]
theorem done_set (s:PS)(t:Tk):(s.push 5).done t=if sgn t [93]=true then some (s.to 3)else if sgn t [44]=true then some (s.push 5)else none:=by
 unfold PS.done PS.push doneO
 cases h:sgn t [93]
 · cases h2:sgn t [44]<;>simp
 · simp[PS.to]
theorem sim_whole {n:Nat}(h:Sim n)(s:PS)(b:Tk)(l:List Tk)(hk:AllK l)(hh:s.had=false):SimR (acc (s.to 1) b l) (accW s) st8 (pE (n+1) 0 l):=by
 cases l with
 | nil=>
   have e:pE (n+1) 0 []=pE n 1 []:=by rw[pE.eq_def];first | done | rfl
   rw[e]
   exact SimR.eqX rfl (h.either s [] hk hh)
 | cons t r=>
   by_cases c:(nam t wIf && !nextS r [58,58])=true
   · have e:pE (n+1) 0 (t::r)=andR (pE n 0 r) fun a r1=>must (fun u=>nam u wThen) r1 fun _ r2=>andR (pE n 0 r2) fun b r3=>must (fun u=>nam u wElse) r3 fun _ r4=>
      andR (pE n 0 r4) fun c r5=>some (.ok (opN 13::(a++(b++c)),r5)):=by
      rw[pE.eq_def];simp only[if_true,c]
     rw[e]
     rw[Bool.and_eq_true]at c
     have cn:nextS r [58,58]=false:=by simpa using c.2
     have e1:acc (s.to 1) b (t::r)=acc ((s.push 1).to 1) t r:=by
      rw[acc_cons]
      have:(s.to 1).next t b=some (s.to 15):=by
       show(s.to 1).whole t=_
       unfold PS.whole;rw[c.1];rfl
      rw[this,off_kind (by rw[(nam_kind c.1).1];rfl),stp_some,acc_if s t t r cn]
      rfl
     refine SimR.eqX e1 (SimR.and (h.whole (s.push 1) t r hk.tail rfl) fun a r1 _ g1=>?_)
     refine SimR.need ?_ ?_ ?_
     · intro e;subst e;exact accE_push s 1 rfl
     · intro u r2 e hu;subst e
       rw[accW_cons,done_then,if_neg (by rw[show nam u wThen=false from hu];decide)];rfl
     · intro u r2 e hu;subst e
       refine SimR.eqX (X':=acc ((s.push 2).to 1) u r2) ?_ ?_
       · rw[accW_cons,done_then,if_pos hu];rfl
       · refine SimR.and (h.whole (s.push 2) u r2 g1.tail rfl) fun b' r3 _ g2=>?_
         refine SimR.need ?_ ?_ ?_
         · intro e;subst e;exact accE_push s 2 rfl
         · intro v r4 e hv;subst e
           rw[accW_cons,done_other,if_neg (by rw[show nam v wElse=false from hv];decide)];rfl
         · intro v r4 e hv;subst e
           refine SimR.eqX (X':=acc ((s.push 3).to 1) v r4) ?_ ?_
           · rw[accW_cons,done_other,if_pos hv];rfl
           · refine SimR.and (h.whole (s.push 3) v r4 g2.tail rfl) fun c' r5 _ g3=>?_
             exact SimR.ok (accW_else s r5) (fun _ _ _=>rfl) g3
   · have e:pE (n+1) 0 (t::r)=pE n 1 (t::r):=by rw[pE.eq_def];simp only[if_true,if_neg c]
     rw[e]
     refine SimR.eqX ?_ (h.either s (t::r) hk hh)
     rw[acc_cons,accB_cons]
     have e2:(s.to 1).next t b=(s.to 1).whole t:=rfl
     rw[e2,whole_plain _ _ _ rfl]
     by_cases c2:nam t wIf=true
     · rw[if_pos c2]
       have cn:nextS r [58,58]=true:=by
        cases hc:nextS r [58,58]with
        | true=>rfl
        | false=>rw[c2,hc]at c;exact absurd rfl c
       obtain⟨k1,k2⟩:=nam_kind c2
       have ha:s.atom t=some (s.to 11):=by
        unfold PS.atom;rw[k1,k2];rfl
       rw[ha,off_kind (by rw[k1];rfl),off_kind (by rw[k1];rfl),stp_some,stp_some]
       cases r with
       | nil=>cases cn
       | cons u r'=>
         have hu:sgn u [58,58]=true:=cn
         rw[acc_cons,acc_cons]
         have n1:(s.to 15).next u t=some (s.to 7):=by
          show(if sgn u [58,58]=true then _ else _)=_
          rw[hu];rfl
         have n2:(s.to 11).next u t=some (s.to 7):=by
          show(if sgn u [58,58]=true then _ else _)=_
          rw[hu];rfl
         rw[n1,n2]
         rfl
     · rw[if_neg c2];rfl
theorem sim_sign {n:Nat}(h:Sim n)(s:PS)(l:List Tk)(hk:AllK l):SimR (accB s false l) (accA s) st7 (pE (n+1) 6 l):=by
 cases l with
 | nil=>
   have e:pE (n+1) 6 []=pE n 7 []:=by rw[pE.eq_def];first | done | rfl
   rw[e]
   exact h.post s [] hk (fun t r h=>by cases h)
 | cons t r=>
   by_cases c1:sgn t [33]=true
   · have e:pE (n+1) 6 (t::r)=andR (pE n 6 r) fun a r1=>some (.ok (opN 9::a,r1)):=by rw[pE.eq_def];simp[c1]
     rw[e]
     obtain⟨k1,k2⟩:=sgn_kind c1
     refine SimR.eqX (X':=accB s false r) ?_ (SimR.and (h.sign s r hk.tail) fun a r1 g1 g2=>SimR.ok rfl g1 g2)
     have ha:s.atom t=some (s.to 2):=by unfold PS.atom;rw[k1,k2];rfl
     rw[accB_cons,ha,off_kind (by rw[k1];rfl),stp_some,acc_two]
   · by_cases c2:(sgn t [45] && !nextNum r)=true
     · have e:pE (n+1) 6 (t::r)=andR (pE n 6 r) fun a r1=>some (.ok (opN 10::a,r1)):=by rw[pE.eq_def];simp[c1,c2]
       rw[e]
       rw[Bool.and_eq_true]at c2
       obtain⟨k1,k2⟩:=sgn_kind c2.1
       refine SimR.eqX (X':=accB s false r) ?_ (SimR.and (h.sign s r hk.tail) fun a r1 g1 g2=>SimR.ok rfl g1 g2)
       have ha:s.atom t=some (s.to 4):=by unfold PS.atom;rw[k1,k2];rfl
       rw[accB_cons,ha,off_kind (by rw[k1];rfl),stp_some,acc_four _ _ _ (by simpa using c2.2)]
     · have e:pE (n+1) 6 (t::r)=pE n 7 (t::r):=by rw[pE.eq_def];simp[c1,c2]
       rw[e]
       refine h.post s (t::r) hk (fun t' r' he=>?_)
       injection he with h1 h2
       subst h1 h2
       refine⟨by simpa using c1,fun h45=>?_⟩
       cases hn:nextNum r with
       | true=>rfl
       | false=>rw[h45,hn]at c2;exact absurd rfl c2
theorem sim_posts {n:Nat}(h:Sim n)(s:PS)(a:List Nd)(l:List Tk)(hk:AllK l):SimR (accA s l) (accA s) st7 (pP (n+1) a l):=by
 cases l with
 | nil=>
   have e:pP (n+1) a []=some (.ok (a,[])):=by rw[pP.eq_def]
   rw[e]
   exact SimR.ok rfl (fun t r' h=>by cases h) hk
 | cons t r=>
   by_cases c1:sgn t [46]=true
   · have e:pP (n+1) a (t::r)=must (fun u=>u.kind == 1) r fun u r1=>
      (if (isCall u && nextS r1 [40])=true then andR (pE n 0 r1.tail) fun b r2=>must (fun v=>sgn v [41]) r2 fun _ r3=>pP n (opN (callOp u)::(a++b)) r3
       else pP n (mkN 22 0 u.l []::a) r1):=by rw[pP.eq_def];simp only[c1,if_true]
     rw[e]
     have e1:accA s (t::r)=acc (s.to 5) t r:=by
      have:(s.to 3).after t=some (s.to 5):=by
       unfold PS.after
       have e3:((s.to 3).want == 10)=false:=rfl
       rw[e3,c1];rfl
      rw[accA_cons,this,stp_some]
     refine SimR.eqX e1 ?_
     refine SimR.need ?_ ?_ ?_
     · intro e;subst e;rfl
     · intro u r1 e hu;subst e
       rw[acc_cons]
       have:(s.to 5).next u t=none:=by
        show(if (u.kind == 1)=true then _ else _)=_
        rw[show(u.kind == 1)=false from hu];rfl
       rw[this];rfl
     · intro u r1 e hu;subst e
       have hk1:u.kind=1:=by simpa using hu
       have hnx:(s.to 5).next u t=if isCall u=true then some (s.to 13)else some (s.to 3):=by
        show(if (u.kind == 1)=true then _ else _)=_
        rw[show(u.kind == 1)=true from hu];rfl
       have e2:acc (s.to 5) t (u::r1)=if isCall u=true then acc (s.to 13) u r1 else acc (s.to 3) u r1:=by
        rw[acc_cons,hnx,off_kind (by rw[hk1];rfl)]
        by_cases hc:isCall u=true
        · rw[if_pos hc,if_pos hc];rfl
        · rw[if_neg hc,if_neg hc];rfl
       rw[e2]
       by_cases c2:(isCall u && nextS r1 [40])=true
       · simp only[if_pos c2]
         rw[Bool.and_eq_true]at c2
         rw[if_pos c2.1]
         cases r1 with
         | nil=>cases c2.2
         | cons v r2=>
           have hv:sgn v [40]=true:=c2.2
           refine SimR.eqX (X':=acc ((s.push 4).to 1) v r2) ?_ ?_
           · rw[acc_cons]
             have:(s.to 13).next v u=some (s.push 4):=by
              show(if sgn v [40]=true then _ else _)=_
              rw[hv];rfl
             rw[this,off_kind (by rw[(sgn_kind hv).1];rfl)];rfl
           · refine SimR.and (h.whole (s.push 4) v r2 hk.tail.tail.tail rfl) fun b r3 _ g1=>?_
             refine SimR.need ?_ ?_ ?_
             · intro e;subst e;exact accE_push s 4 rfl
             · intro x r4 e hx;subst e
               rw[accW_cons,done_round,if_neg (by rw[show sgn x [41]=false from hx];decide)];rfl
             · intro x r4 e hx;subst e
               refine SimR.eqX (X':=accA s r4) ?_ (h.posts s _ r4 g1.tail)
               rw[accW_cons,done_round,if_pos hx,stp_some,acc_three]
       · simp only[if_neg c2]
         refine SimR.eqX (X':=accA s r1) ?_ (h.posts s _ r1 hk.tail.tail)
         by_cases hc:isCall u=true
         · rw[if_pos hc]
           have:nextS r1 [40]=false:=by
            cases hn:nextS r1 [40]with
            | false=>rfl
            | true=>rw[hc,hn]at c2;exact absurd rfl c2
           rw[acc_open _ _ _ this]
         · rw[if_neg hc,acc_three]
   · have e:pP (n+1) a (t::r)=some (.ok (a,t::r)):=by rw[pP.eq_def];simp only[if_neg c1]
     rw[e]
     exact SimR.ok rfl (fun t' r' h'=>by injection h' with h1 _;rw[←h1];show sgn t [46]=false;simpa using c1) hk
theorem pop_to (s:PS)(o w:Nat):((s.push o).to w).pop=s.to 3:=rfl
theorem sim_sets {n:Nat}(h:Sim n)(s:PS)(b:Tk)(k:Nat)(a:List Nd)(l:List Tk)(hk:AllK l):SimR (acc ((s.push 5).to 1) b l) (accA s) st8 (pS (n+1) k a l):=by
 have e:pS (n+1) k a l=andR (pE n 0 l) fun a' r=>
  match r with
  | []=>some (.error (0,1))
  | t::r1=>if sgn t [93]=true then some (.ok (mkN 5 ((k:Int)+1) [] []::(a++a'),r1))else if sgn t [44]=true then pS n (k+1) (a++a') r1 else some (.error (r1.length+1,1)):=by
  rw[pS.eq_def];first | done | rfl
 rw[e]
 refine SimR.and (h.whole (s.push 5) b l hk rfl) fun a' r _ g=>?_
 cases r with
 | nil=>exact SimR.err (accE_push s 5 rfl)
 | cons t r1=>
   simp only
   by_cases c1:sgn t [93]=true
   · rw[if_pos c1]
     refine SimR.ok ?_ (fun _ _ _=>rfl) g.tail
     rw[accW_cons,done_set,if_pos c1,stp_some,acc_three]
   · rw[if_neg c1]
     by_cases c2:sgn t [44]=true
     · rw[if_pos c2]
       refine SimR.eqX ?_ (h.sets s t (k+1) (a++a') r1 g.tail)
       rw[accW_cons,done_set,if_neg c1,if_pos c2,stp_some];rfl
     · rw[if_neg c2]
       refine SimR.err ?_
       rw[accW_cons,done_set,if_neg c1,if_neg c2];rfl
theorem comR_sgn {nm:List UInt8}{t:Tk}(h:comR nm t=true):sgn t [44]=true:=by
 unfold comR at h;rw[Bool.and_eq_true]at h;exact h.1
def inRec (s:PS)(w:Nat)(nm:List UInt8):PS:=⟨w,6::s.opn,false::s.rel,nm::s.last⟩
theorem done_rec (s:PS)(w:Nat)(nm:List UInt8)(t:Tk):(inRec s w nm).done t=if sgn t [125]=true then some (s.to 3)else if comR nm t=true then some (inRec s 8 nm)else none:=by
 unfold PS.done inRec doneO
 cases h:sgn t [125]
 · cases h2:comR nm t<;>simp[h2]
 · simp[PS.to]
theorem accE_rec (s:PS)(w:Nat)(nm:List UInt8):accE (inRec s w nm)=some (0,1):=by
 unfold accE inRec
 simp
theorem sim_keys {n:Nat}(h:Sim n)(s:PS)(b:Tk)(k:Nat)(nm:List UInt8)(a:List Nd)(l:List Tk)(hk:AllK l)(hb:∀t r,l=t::r→(sgn t [125] && sgn b [123])=false):
 SimR (acc ⟨8,6::s.opn,false::s.rel,nm::s.last⟩ b l) (accA s) st8 (pK (n+1) k nm a l):=by
 have e:pK (n+1) k nm a l=must (fun u=>u.kind == 1 && decide (Lib.compareBytes nm u.l<0)) l fun u r0=>must (fun v=>sgn v [58]) r0 fun _ r1=>
  andR (pE n 0 r1) fun a' r=>
   match r with
   | []=>some (.error (0,1))
   | t::r2=>if sgn t [125]=true then some (.ok (mkN 6 ((k:Int)+1) [] []::(a++(mkN 7 0 u.l []::a')),r2))else if comR u.l t=true then pK n (k+1) u.l (a++(mkN 7 0 u.l []::a')) r2 else some (.error (r2.length+1,1)):=by
  rw[pK.eq_def];first | done | rfl
 rw[e]
 show SimR (acc (inRec s 8 nm) b l) (accA s) st8 _
 refine SimR.need ?_ ?_ ?_
 · intro e;subst e;rfl
 · intro u r e hu;subst e
   have hn:(inRec s 8 nm).next u b=none:=by
    show(if (sgn u [125] && sgn b [123])=true then _ else if (u.kind == 1 && decide (Lib.compareBytes nm u.l<0))=true then _ else none)=_
    rw[hb u r rfl,hu];rfl
   rw[acc_cons,hn];rfl
 · intro u r e hu;subst e
   have hn:(inRec s 8 nm).next u b=some (inRec s 9 u.l):=by
    show(if (sgn u [125] && sgn b [123])=true then _ else if (u.kind == 1 && decide (Lib.compareBytes nm u.l<0))=true then _ else none)=_
    rw[hb u r rfl,hu];rfl
   have hu1:u.kind=1:=by rw[Bool.and_eq_true]at hu;simpa using hu.1
   have e1:acc (inRec s 8 nm) b (u::r)=acc (inRec s 9 u.l) u r:=by
    rw[acc_cons,hn,off_kind (by rw[hu1];rfl)];rfl
   rw[e1]
   refine SimR.need ?_ ?_ ?_
   · intro e;subst e;rfl
   · intro v r1 e hv;subst e
     have hm:(inRec s 9 u.l).next v u=none:=by
      show(if sgn v [58]=true then _ else _)=_
      rw[show sgn v [58]=false from hv];rfl
     rw[acc_cons,hm];rfl
   · intro v r1 e hv;subst e
     have hv':sgn v [58]=true:=hv
     have hm:(inRec s 9 u.l).next v u=some (inRec s 1 u.l):=by
      show(if sgn v [58]=true then _ else _)=_
      rw[hv'];rfl
     have e2:acc (inRec s 9 u.l) u (v::r1)=acc ((inRec s 1 u.l).to 1) v r1:=by
      rw[acc_cons,hm,off_kind (by rw[(sgn_kind hv').1];rfl)];rfl
     rw[e2]
     refine SimR.and (h.whole (inRec s 1 u.l) v r1 hk.tail.tail rfl) fun a' r2 _ g=>?_
     cases r2 with
     | nil=>exact SimR.err (accE_rec s 1 u.l)
     | cons t r3=>
       simp only
       by_cases c1:sgn t [125]=true
       · rw[if_pos c1]
         refine SimR.ok ?_ (fun _ _ _=>rfl) g.tail
         rw[accW_cons,done_rec,if_pos c1,stp_some,acc_three]
       · rw[if_neg c1]
         by_cases c2:comR u.l t=true
         · rw[if_pos c2]
           refine SimR.eqX ?_ (h.keys s t (k+1) u.l _ r3 g.tail ?_)
           · rw[accW_cons,done_rec,if_neg c1,if_pos c2,stp_some];rfl
           · intro x r4 _
             rw[sgn_ne (comR_sgn c2) (by decide:([44]:List UInt8)≠[123])];simp
         · rw[if_neg c2]
           refine SimR.err ?_
           rw[accW_cons,done_rec,if_neg c1,if_neg c2];rfl
theorem atom_lit (s:PS)(t:Tk)(h:(t.kind == 2 || t.kind == 3 || t.kind == 4)=true):s.atom t=some (s.to 3):=by
 unfold PS.atom;rw[if_pos h]
theorem atom_name (s:PS)(t:Tk)(h:t.kind=1):s.atom t=if (t.l == wTrue || t.l == wFalse || !rsv t.l)=true then some (s.to 14)else some (s.to 11):=by
 unfold PS.atom;rw[h];rfl
theorem atom_sgn (s:PS)(t:Tk)(h:t.kind=5):s.atom t=if (t.l == [33])=true then some (s.to 2)
 else if (t.l == [45])=true then some (s.to 4)
 else if (t.l == [40])=true then some (s.push 4)
 else if (t.l == [91])=true then some ((s.push 5).to 12)
 else if (t.l == [123])=true then some ((s.push 6).to 8)
 else none:=by
 unfold PS.atom;rw[h];rfl
theorem sim_typed {n:Nat}(s:PS)(w:Nat)(hw:w=14∨w=11)(t u:Tk)(r:List Tk)(hu:sgn u [58,58]=true)(hk:AllK r):
 SimR (acc (s.to w) t (u::r)) (accA s) st8 (must (fun u=>u.kind == 3) r fun v r2=>some (.ok ([mkN 4 0 t.l v.l],r2))):=by
 have e1:acc (s.to w) t (u::r)=acc (s.to 7) u r:=by
  have:(s.to w).next u t=some (s.to 7):=by
   rcases hw with hw | hw<;>subst hw<;>show(if sgn u [58,58]=true then _ else _)=_<;>rw[hu]<;>rfl
  rw[acc_cons,this,off_kind (by rw[(sgn_kind hu).1];rfl)];rfl
 rw[e1]
 refine SimR.need ?_ ?_ ?_
 · intro e;subst e;rfl
 · intro v r2 e hv;subst e
   have:(s.to 7).next v u=none:=by
    show(if (v.kind == 3)=true then _ else _)=_
    rw[show(v.kind == 3)=false from hv];rfl
   rw[acc_cons,this];rfl
 · intro v r2 e hv;subst e
   refine SimR.ok ?_ (fun _ _ _=>rfl) hk.tail
   have hk3:v.kind=3:=by simpa using hv
   have:(s.to 7).next v u=some (s.to 3):=by
    show(if (v.kind == 3)=true then(if sgn u [58,58]=true then _ else _)else _)=_
    rw[show(v.kind == 3)=true from hv,hu];rfl
   rw[acc_cons,this,off_kind (by rw[hk3];rfl),stp_some,acc_three]
theorem sim_name {n:Nat}(s:PS)(t:Tk)(r:List Tk)(ht:t.kind=1)(hk:AllK (t::r))(R:Option (Except (Nat×Int) (List Nd×List Tk)))
 (hR:R=if nextS r [58,58]=true then must (fun u=>u.kind == 3) r.tail fun u r2=>some (.ok ([mkN 4 0 t.l u.l],r2))
  else if (t.l == wTrue)=true then some (.ok ([mkN 1 1 [] []],r))
  else if (t.l == wFalse)=true then some (.ok ([mkN 1 0 [] []],r))
  else if rsv t.l=true then some (.error (r.length,1))
  else some (.ok ([mkN 8 0 t.l []],r))):SimR (accB s false (t::r)) (accA s) st8 R:=by
 rw[hR,accB_cons,atom_name s t ht,off_kind (by rw[ht];rfl)]
 by_cases c1:nextS r [58,58]=true
 · rw[if_pos c1]
   cases r with
   | nil=>cases c1
   | cons u r1=>
     split
     · rw[stp_some];exact sim_typed (n:=n) s 14 (Or.inl rfl) t u r1 c1 hk.tail.tail
     · rw[stp_some];exact sim_typed (n:=n) s 11 (Or.inr rfl) t u r1 c1 hk.tail.tail
 · rw[if_neg c1]
   have c1':nextS r [58,58]=false:=by simpa using c1
   by_cases c2:(t.l == wTrue)=true
   · rw[if_pos c2,if_pos (by rw[c2];rfl),stp_some]
     exact SimR.ok (acc_name s t r c1') (fun _ _ _=>rfl) hk.tail
   · rw[if_neg c2]
     by_cases c3:(t.l == wFalse)=true
     · rw[if_pos c3,if_pos (by rw[c3];simp),stp_some]
       exact SimR.ok (acc_name s t r c1') (fun _ _ _=>rfl) hk.tail
     · rw[if_neg c3]
       by_cases c4:rsv t.l=true
       · rw[if_pos c4]
         have c2':(t.l == wTrue)=false:=by simpa using c2
         have c3':(t.l == wFalse)=false:=by simpa using c3
         rw[if_neg (by rw[c2',c3',c4];decide),stp_some]
         refine SimR.err ?_
         cases r with
         | nil=>rfl
         | cons u r1=>
           have hu:sgn u [58,58]=false:=c1'
           have:(s.to 11).next u t=none:=by
            show(if sgn u [58,58]=true then _ else _)=_
            rw[hu];rfl
           rw[acc_cons,this];rfl
       · rw[if_neg c4]
         have c4':rsv t.l=false:=by simpa using c4
         rw[if_pos (by rw[c4'];simp),stp_some]
         exact SimR.ok (acc_name s t r c1') (fun _ _ _=>rfl) hk.tail
theorem sim_atom {n:Nat}(h:Sim n)(s:PS)(l:List Tk)(hk:AllK l)(hs:noSign l):SimR (accB s false l) (accA s) st8 (pE (n+1) 8 l):=by
 cases l with
 | nil=>
   have e:pE (n+1) 8 []=some (.error (0,1)):=by rw[pE.eq_def];first | done | rfl
   rw[e];exact SimR.err rfl
 | cons t r=>
   have e:pE (n+1) 8 (t::r)=(if (t.kind == 2)=true then(if great t false=true then some (.error (r.length+1,5))else some (.ok ([numN t false],r)))
    else if (t.kind == 3)=true then some (.ok ([mkN 3 0 t.l []],r))
    else if (t.kind == 4)=true then some (.ok ([mkN 8 0 (63::t.l) []],r))
    else if (t.kind == 1)=true then
     (if nextS r [58,58]=true then must (fun u=>u.kind == 3) r.tail fun u r2=>some (.ok ([mkN 4 0 t.l u.l],r2))
      else if (t.l == wTrue)=true then some (.ok ([mkN 1 1 [] []],r))
      else if (t.l == wFalse)=true then some (.ok ([mkN 1 0 [] []],r))
      else if rsv t.l=true then some (.error (r.length,1))
      else some (.ok ([mkN 8 0 t.l []],r)))
    else if (t.l == [45])=true then must (fun u=>u.kind == 2) r fun u r2=>(if great u true=true then some (.error (r2.length+1,5))else some (.ok ([numN u true],r2)))
    else if (t.l == [40])=true then andR (pE n 0 r) fun a r1=>must (fun u=>sgn u [41]) r1 fun _ r2=>some (.ok (a,r2))
    else if (t.l == [91])=true then(if nextS r [93]=true then some (.ok ([mkN 5 0 [] []],r.tail))else pS n 0 [] r)
    else if (t.l == [123])=true then(if nextS r [125]=true then some (.ok ([mkN 6 0 [] []],r.tail))else pK n 0 [] [] r)
    else some (.error (r.length+1,1))):=by rw[pE.eq_def];first | done | rfl
   rw[e]
   have hk0:=hk.head
   unfold kOk at hk0
   simp only[Bool.or_eq_true,beq_iff_eq]at hk0
   rcases hk0 with(((k1 | k1) | k1) | k1) | k1
   ·
    refine sim_name (n:=n) s t r k1 hk _ ?_
    rw[k1];rfl
   ·
    rw[if_pos (by rw[k1];rfl),accB_cons,atom_lit s t (by rw[k1];rfl)]
    by_cases g:great t false=true
    · rw[if_pos g,g,k1];exact SimR.err rfl
    · rw[if_neg g]
      have g':great t false=false:=by simpa using g
      rw[g',k1]
      exact SimR.ok (acc_three s t r) (fun _ _ _=>rfl) hk.tail
   · rw[if_neg (by rw[k1];decide),if_pos (by rw[k1];rfl),accB_cons,atom_lit s t (by rw[k1];rfl),off_kind (by rw[k1];rfl)]
     exact SimR.ok (acc_three s t r) (fun _ _ _=>rfl) hk.tail
   · rw[if_neg (by rw[k1];decide),if_neg (by rw[k1];decide),if_pos (by rw[k1];rfl),accB_cons,atom_lit s t (by rw[k1];rfl),off_kind (by rw[k1];rfl)]
     exact SimR.ok (acc_three s t r) (fun _ _ _=>rfl) hk.tail
   ·
    obtain⟨n1,n2⟩:=hs t r rfl
    have n1':(t.l == [33])=false:=by
     unfold sgn at n1;rw[k1]at n1;exact n1
    rw[if_neg (by rw[k1];decide),if_neg (by rw[k1];decide),if_neg (by rw[k1];decide),if_neg (by rw[k1];decide),accB_cons,atom_sgn s t k1,off_kind (by rw[k1];rfl),
     if_neg (by rw[n1'];decide)]
    by_cases c1:(t.l == [45])=true
    · rw[if_pos c1,if_pos c1,stp_some]
      have hn:nextNum r=true:=n2 (by unfold sgn;rw[k1,c1];rfl)
      cases r with
      | nil=>cases hn
      | cons u r1=>
        have hu:(u.kind == 2)=true:=hn
        refine SimR.need (fun h=>by cases h) (fun v r2 e hv=>?_) (fun v r2 e hv=>?_)
        · injection e with e1 e2;subst e1;rw[hu]at hv;cases hv
        · injection e with e1 e2;subst e1 e2
          have ha:(s.to 4).next u t=some (s.to 3):=atom_lit _ _ (by rw[hu];rfl)
          rw[acc_cons,ha,hu]
          have hw:((s.to 4).want == 4)=true:=rfl
          rw[hw]
          by_cases g:great u true=true
          · rw[if_pos g,g];exact SimR.err rfl
          · rw[if_neg g]
            have g':great u true=false:=by simpa using g
            rw[g']
            exact SimR.ok (acc_three s u r1) (fun _ _ _=>rfl) hk.tail.tail
    · rw[if_neg c1,if_neg c1]
      by_cases c2:(t.l == [40])=true
      · rw[if_pos c2,if_pos c2,stp_some]
        refine SimR.and (h.whole (s.push 4) t r hk.tail rfl) fun b r3 _ g1=>?_
        refine SimR.need ?_ ?_ ?_
        · intro e;subst e;exact accE_push s 4 rfl
        · intro x r4 e hx;subst e
          rw[accW_cons,done_round,if_neg (by rw[show sgn x [41]=false from hx];decide)];rfl
        · intro x r4 e hx;subst e
          refine SimR.ok ?_ (fun _ _ _=>rfl) g1.tail
          rw[accW_cons,done_round,if_pos hx,stp_some,acc_three]
      · rw[if_neg c2,if_neg c2]
        by_cases c3:(t.l == [91])=true
        · rw[if_pos c3,if_pos c3,stp_some]
          by_cases c4:nextS r [93]=true
          · rw[if_pos c4]
            cases r with
            | nil=>cases c4
            | cons u r1=>
              have hu:sgn u [93]=true:=c4
              refine SimR.ok ?_ (fun _ _ _=>rfl) hk.tail.tail
              have:((s.push 5).to 12).next u t=some (s.to 3):=by
               show(if nam u wIf=true then _ else if (true && sgn u [93])=true then _ else _)=_
               rw[sgn_nam hu,hu];rfl
              rw[acc_cons,this,off_kind (by rw[(sgn_kind hu).1];rfl),stp_some,acc_three];rfl
          · rw[if_neg c4,acc_first _ _ _ (by simpa using c4)]
            exact h.sets s t 0 [] r hk.tail
        · rw[if_neg c3,if_neg c3]
          by_cases c5:(t.l == [123])=true
          · rw[if_pos c5,if_pos c5,stp_some]
            have ht:sgn t [123]=true:=by unfold sgn;rw[k1,c5];rfl
            by_cases c4:nextS r [125]=true
            · rw[if_pos c4]
              cases r with
              | nil=>cases c4
              | cons u r1=>
                have hu:sgn u [125]=true:=c4
                refine SimR.ok ?_ (fun _ _ _=>rfl) hk.tail.tail
                have:((s.push 6).to 8).next u t=some (s.to 3):=by
                 show(if (sgn u [125] && sgn t [123])=true then _ else _)=_
                 rw[ht,hu];rfl
                rw[acc_cons,this,off_kind (by rw[(sgn_kind hu).1];rfl),stp_some,acc_three];rfl
            · rw[if_neg c4]
              refine h.keys s t 0 [] [] r hk.tail ?_
              intro x r4 e;subst e
              have:sgn x [125]=false:=by simpa[nextS]using c4
              rw[this];rfl
          · rw[if_neg c5,if_neg c5]
            exact SimR.err rfl
theorem sim_all:∀n,Sim n
 | 0=>sim_zero
 | n+1=>by
   have h:=sim_all n
   exact⟨fun s b l hk hh=>sim_whole h s b l hk hh,fun s l hk hh=>sim_either h s l hk hh,fun s l hk hh=>sim_both h s l hk hh,fun s l hk hh=>sim_rel h s l hk hh,fun s l hk=>sim_sum h s l hk,
    fun s l hk=>sim_prod h s l hk,fun s l hk=>sim_sign h s l hk,fun s l hk hs=>sim_post h s l hk hs,fun s l hk hs=>sim_atom h s l hk hs,
    fun s a l hk hs=>sim_ors1 h s a l hk hs,fun s a l hk=>sim_ands2 h s a l hk,fun s a l hk hs=>sim_sums4 h s a l hk hs,fun s a l hk hs=>sim_prods5 h s a l hk hs,
    fun s a l hk=>sim_posts h s a l hk,fun s b k a l hk=>sim_sets h s b k a l hk,fun s b k nm a l hk hb=>sim_keys h s b k nm a l hk hb⟩
def ps0:PS:=⟨1,[],[false],[]⟩
theorem halt_error {n:Nat}{l:List Tk}{b:Tk}{e:Nat×Int}(hk:AllK l)(h:pE n 0 l=some (.error e)):acc ps0 b l=some e:=
 ((sim_all n).whole ps0 b l hk rfl).1 e h
theorem halt_ok {n:Nat}{l:List Tk}{b:Tk}{a:List Nd}(hk:AllK l)(h:pE n 0 l=some (.ok (a,[]))):acc ps0 b l=none:=
 (((sim_all n).whole ps0 b l hk rfl).2 _ h).1
theorem halt_more {n:Nat}{l r:List Tk}{b t:Tk}{a:List Nd}(hk:AllK l)(h:pE n 0 l=some (.ok (a,t::r))):acc ps0 b l=some (r.length+1,1):=
 (((sim_all n).whole ps0 b l hk rfl).2 _ h).1
def lftL (l:Nat):Prop:=l=1∨l=2∨l=4∨l=5
inductive Der:Nat→List Tk→List Nd→Prop where
 | ite (t u v:Tk) (a b c:List Tk) (x y z:List Nd):nam t wIf=true→nam u wThen=true→nam v wElse=true→Der 0 a x→Der 0 b y→Der 0 c z→
  Der 0 (t::(a++u::(b++v::c))) (opN 13::(x++(y++z)))
 | up (l:Nat) (a:List Tk) (x:List Nd):l≤7→Der (l+1) a x→Der l a x
 | bin (l:Nat) (t:Tk) (a b:List Tk) (x y:List Nd):lftL l→lvlS l t=true→Der l a x→Der (l+1) b y→Der l (a++t::b) (opN (opOf t)::(x++y))
 | rel (t:Tk) (a b:List Tk) (x y:List Nd):relS t=true→Der 4 a x→Der 4 b y→Der 3 (a++t::b) (opN (opOf t)::(x++y))
 | has (t u:Tk) (a:List Tk) (x:List Nd):hasS t=true→u.kind=1→Der 4 a x→Der 3 (a++[t,u]) (mkN (if nam t wHas=true then 21 else 24) 0 u.l []::x)
 | like (t u:Tk) (a:List Tk) (x:List Nd):nam t wLike=true→u.kind=3→Der 4 a x→Der 3 (a++[t,u]) (mkN 23 0 u.l []::x)
 | not (t:Tk) (a:List Tk) (x:List Nd):sgn t [33]=true→Der 6 a x→Der 6 (t::a) (opN 9::x)
 | neg (t:Tk) (a:List Tk) (x:List Nd):sgn t [45]=true→nextNum a=false→Der 6 a x→Der 6 (t::a) (opN 10::x)
 | get (t u:Tk) (a:List Tk) (x:List Nd):sgn t [46]=true→u.kind=1→Der 7 a x→Der 7 (a++[t,u]) (mkN 22 0 u.l []::x)
 | call (t u v w:Tk) (a b:List Tk) (x y:List Nd):sgn t [46]=true→u.kind=1→isCall u=true→sgn v [40]=true→sgn w [41]=true→Der 7 a x→Der 0 b y→
  Der 7 (a++t::u::v::(b++[w])) (opN (callOp u)::(x++y))
 | num (t:Tk):t.kind=2→great t false=false→Der 8 [t] [numN t false]
 | mnum (t u:Tk):sgn t [45]=true→u.kind=2→great u true=false→Der 8 [t,u] [numN u true]
 | text (t:Tk):t.kind=3→Der 8 [t] [mkN 3 0 t.l []]
 | slot (t:Tk):t.kind=4→Der 8 [t] [mkN 8 0 (63::t.l) []]
 | ent (t u v:Tk):t.kind=1→sgn u [58,58]=true→v.kind=3→Der 8 [t,u,v] [mkN 4 0 t.l v.l]
 | yes (t:Tk):nam t wTrue=true→Der 8 [t] [mkN 1 1 [] []]
 | no (t:Tk):nam t wFalse=true→Der 8 [t] [mkN 1 0 [] []]
 | var (t:Tk):t.kind=1→t.l≠wTrue→t.l≠wFalse→rsv t.l=false→Der 8 [t] [mkN 8 0 t.l []]
 | round (t u:Tk) (a:List Tk) (x:List Nd):sgn t [40]=true→sgn u [41]=true→Der 0 a x→Der 8 (t::(a++[u])) x
 | set0 (t u:Tk):sgn t [91]=true→sgn u [93]=true→Der 8 [t,u] [mkN 5 0 [] []]
 | set (t u:Tk) (a:List Tk) (x:List Nd):sgn t [91]=true→sgn u [93]=true→Der 9 a x→Der 8 (t::(a++[u])) x
 | rec0 (t u:Tk):sgn t [123]=true→sgn u [125]=true→Der 8 [t,u] [mkN 6 0 [] []]
 | fields (t u:Tk) (k:Int) (nm:List UInt8) (a:List Tk) (x:List Nd):sgn t [123]=true→sgn u [125]=true→Der 10 a (mkN 6 k nm []::x)→Der 8 (t::(a++[u])) (mkN 6 k [] []::x)
 | one (a:List Tk) (x:List Nd):Der 0 a x→Der 9 a (mkN 5 1 [] []::x)
 | more (t:Tk) (k:Int) (a b:List Tk) (x y:List Nd):sgn t [44]=true→Der 9 a (mkN 5 k [] []::x)→Der 0 b y→Der 9 (a++t::b) (mkN 5 (k+1) [] []::(x++y))
 | fone (u c:Tk) (b:List Tk) (y:List Nd):u.kind=1→Lib.compareBytes [] u.l<0→sgn c [58]=true→Der 0 b y→Der 10 (u::c::b) (mkN 6 1 u.l []::mkN 7 0 u.l []::y)
 | fmore (t u c:Tk) (k:Int) (nm:List UInt8) (a b:List Tk) (x y:List Nd):comR nm t=true→u.kind=1→Lib.compareBytes nm u.l<0→sgn c [58]=true→
  Der 10 a (mkN 6 k nm []::x)→Der 0 b y→Der 10 (a++t::u::c::b) (mkN 6 (k+1) u.l []::(x++(mkN 7 0 u.l []::y)))
theorem Der.ne {l:Nat}{a:List Tk}{x:List Nd}(h:Der l a x):a≠[]:=by
 induction h<;>simp_all
theorem AllK.right {a r:List Tk}(h:AllK (a++r)):AllK r:=fun t ht=>h t (List.mem_append_right _ ht)
theorem AllK.left {a r:List Tk}(h:AllK (a++r)):AllK a:=fun t ht=>h t (List.mem_append_left _ ht)
def SndR (l:List Tk)(Q:List Tk→List Nd→Prop)(R:Option (Except (Nat×Int) (List Nd×List Tk))):Prop:=
 AllK l→∀e r,R=some (.ok (e,r))→∃ts,l=ts++r∧Q ts e
theorem SndR.none {l:List Tk}{Q:List Tk→List Nd→Prop}:SndR l Q none:=fun _ _ _ h=>by cases h
theorem SndR.err {l:List Tk}{Q:List Tk→List Nd→Prop}{e:Nat×Int}:SndR l Q (some (.error e)):=fun _ _ _ h=>by cases h
theorem SndR.ok {l:List Tk}{Q:List Tk→List Nd→Prop}{x:List Nd}(h:Q [] x):SndR l Q (some (.ok (x,l))):=fun _ e r he=>by
 injection he with he;injection he with he;injection he with h1 h2;subst h1 h2;exact⟨[],rfl,h⟩
theorem SndR.cons {t:Tk}{r:List Tk}{Q:List Tk→List Nd→Prop}{R:Option (Except (Nat×Int) (List Nd×List Tk))}(h:kOk t=true→SndR r (fun ts e=>Q (t::ts) e) R):SndR (t::r) Q R:=fun hk e r' he=>by
 obtain⟨ts,h1,h2⟩:=h hk.head hk.tail e r' he
 exact⟨t::ts,by rw[h1];rfl,h2⟩
theorem SndR.and {l:List Tk}{Q1 Q:List Tk→List Nd→Prop}{A:Option (Except (Nat×Int) (List Nd×List Tk))}{f:List Nd→List Tk→Option (Except (Nat×Int) (List Nd×List Tk))}
 (hA:SndR l Q1 A) (hf:∀ts a r,Q1 ts a→SndR r (fun us e=>Q (ts++us) e) (f a r)):SndR l Q (andR A f):=by
 unfold andR
 match A,hA with
 | Option.none,_=>exact SndR.none
 | some (.error e),hA=>exact SndR.err
 | some (.ok x),hA=>
   intro hk e r he
   obtain⟨ts,h1,h2⟩:=hA hk x.1 x.2 rfl
   rw[h1]at hk
   obtain⟨us,h3,h4⟩:=hf ts x.1 x.2 h2 hk.right e r he
   exact⟨ts++us,by rw[h1,h3,List.append_assoc],h4⟩
theorem SndR.need {l:List Tk}{Q:List Tk→List Nd→Prop}{p:Tk→Bool}{f:Tk→List Tk→Option (Except (Nat×Int) (List Nd×List Tk))}
 (h:∀t r,kOk t=true→p t=true→SndR r (fun us e=>Q (t::us) e) (f t r)):SndR l Q (must p l f):=by
 unfold must
 cases l with
 | nil=>exact SndR.err
 | cons t r=>
   by_cases hp:p t=true
   · simp only[if_pos hp];exact SndR.cons fun hk=>h t r hk hp
   · simp only[if_neg hp];exact SndR.err
theorem SndR.imp {l:List Tk}{Q Q':List Tk→List Nd→Prop}{R:Option (Except (Nat×Int) (List Nd×List Tk))}(hq:∀ts e,Q ts e→Q' ts e)(h:SndR l Q R):SndR l Q' R:=fun hk e r he=>by
 obtain⟨ts,h1,h2⟩:=h hk e r he;exact⟨ts,h1,hq _ _ h2⟩
def setP (k:Nat)(acc:List Nd)(pre:List Tk):Prop:=(k=0∧acc=[]∧pre=[])∨∃p t,Der 9 p (mkN 5 k [] []::acc)∧sgn t [44]=true∧pre=p++[t]
def recP (k:Nat)(nm:List UInt8)(acc:List Nd)(pre:List Tk):Prop:=(k=0∧nm=[]∧acc=[]∧pre=[])∨∃p t,Der 10 p (mkN 6 k nm []::acc)∧comR nm t=true∧pre=p++[t]
structure Snd (n:Nat):Prop where
 E:∀lvl l,lvl≤8→SndR l (Der lvl) (pE n lvl l)
 L:∀lvl pre a l,lftL lvl→Der lvl pre a→SndR l (fun ts e=>Der lvl (pre++ts) e) (pL n lvl a l)
 P:∀pre a l,Der 7 pre a→SndR l (fun ts e=>Der 7 (pre++ts) e) (pP n a l)
 S:∀k pre acc l,setP k acc pre→SndR l (fun ts e=>∃us u,ts=us++[u]∧sgn u [93]=true∧Der 9 (pre++us) e) (pS n k acc l)
 K:∀k nm pre acc l,recP k nm acc pre→SndR l (fun ts e=>∃us u k' nm' x,ts=us++[u]∧sgn u [125]=true∧e=mkN 6 k' [] []::x∧Der 10 (pre++us) (mkN 6 k' nm' []::x)) (pK n k nm acc l)
theorem snd_zero:Snd 0:=by
 constructor<;>intros<;>(first | rw[pE] | rw[pL] | rw[pP] | rw[pS] | rw[pK])<;>exact SndR.none
theorem snd_L {n:Nat}(h:Snd n)(lvl:Nat)(pre:List Tk)(a:List Nd)(l:List Tk)(hl:lftL lvl)(hd:Der lvl pre a):SndR l (fun ts e=>Der lvl (pre++ts) e) (pL (n+1) lvl a l):=by
 cases l with
 | nil=>rw[pL_nil];exact SndR.ok (by rw[List.append_nil];exact hd)
 | cons t r=>
   have e:pL (n+1) lvl a (t::r)=if lvlS lvl t=true then andR (pE n (lvl+1) r) fun b r1=>pL n lvl (opN (opOf t)::(a++b)) r1 else some (.ok (a,t::r)):=by rw[pL.eq_def]
   rw[e]
   by_cases c:lvlS lvl t=true
   · rw[if_pos c]
     refine SndR.cons fun hk=>?_
     refine SndR.and (h.E (lvl+1) r (by unfold lftL at hl;omega)) fun ts b r1 hb=>?_
     refine SndR.imp ?_ (h.L lvl (pre++t::ts) _ r1 hl (Der.bin lvl t pre ts a b hl c hd hb))
     intro us e hus
     simpa using hus
   · rw[if_neg c];exact SndR.ok (by rw[List.append_nil];exact hd)
theorem snd_P {n:Nat}(h:Snd n)(pre:List Tk)(a:List Nd)(l:List Tk)(hd:Der 7 pre a):SndR l (fun ts e=>Der 7 (pre++ts) e) (pP (n+1) a l):=by
 cases l with
 | nil=>
   have e:pP (n+1) a []=some (.ok (a,[])):=by rw[pP.eq_def]
   rw[e];exact SndR.ok (by rw[List.append_nil];exact hd)
 | cons t r=>
   by_cases c1:sgn t [46]=true
   · have e:pP (n+1) a (t::r)=must (fun u=>u.kind == 1) r fun u r1=>
      (if (isCall u && nextS r1 [40])=true then andR (pE n 0 r1.tail) fun b r2=>must (fun v=>sgn v [41]) r2 fun _ r3=>pP n (opN (callOp u)::(a++b)) r3
       else pP n (mkN 22 0 u.l []::a) r1):=by rw[pP.eq_def];simp only[c1,if_true]
     rw[e]
     refine SndR.cons fun _=>SndR.need fun u r1 _ hu=>?_
     have hu1:u.kind=1:=by simpa using hu
     by_cases c2:(isCall u && nextS r1 [40])=true
     · rw[if_pos c2]
       rw[Bool.and_eq_true]at c2
       cases r1 with
       | nil=>cases c2.2
       | cons v r2=>
         refine SndR.cons fun _=>SndR.and (h.E 0 r2 (by omega)) fun ts b r3 hb=>SndR.need fun w r4 _ hw=>?_
         refine SndR.imp ?_ (h.P (pre++t::u::v::(ts++[w])) _ r4 (Der.call t u v w pre ts a b c1 hu1 c2.1 c2.2 hw hd hb))
         intro us e hus
         simpa using hus
     · rw[if_neg c2]
       refine SndR.imp ?_ (h.P (pre++[t,u]) _ r1 (Der.get t u pre a c1 hu1 hd))
       intro us e hus
       simpa using hus
   · have e:pP (n+1) a (t::r)=some (.ok (a,t::r)):=by rw[pP.eq_def];simp only[if_neg c1]
     rw[e];exact SndR.ok (by rw[List.append_nil];exact hd)
theorem snd_S {n:Nat}(h:Snd n)(k:Nat)(pre:List Tk)(acc:List Nd)(l:List Tk)(hp:setP k acc pre):
 SndR l (fun ts e=>∃us u,ts=us++[u]∧sgn u [93]=true∧Der 9 (pre++us) e) (pS (n+1) k acc l):=by
 have e:pS (n+1) k acc l=andR (pE n 0 l) fun a' r=>
  match r with
  | []=>some (.error (0,1))
  | t::r1=>if sgn t [93]=true then some (.ok (mkN 5 ((k:Int)+1) [] []::(acc++a'),r1))else if sgn t [44]=true then pS n (k+1) (acc++a') r1 else some (.error (r1.length+1,1)):=by
  rw[pS.eq_def];first | done | rfl
 rw[e]
 refine SndR.and (h.E 0 l (by omega)) fun ts a' r hd=>?_
 have hn:Der 9 (pre++ts) (mkN 5 ((k:Int)+1) [] []::(acc++a')):=by
  rcases hp with⟨h1,h2,h3⟩ | ⟨p,t,h1,h2,h3⟩
  · subst h1 h2 h3;exact Der.one ts a' hd
  · subst h3
    have:=Der.more t k p ts acc a' h2 h1 hd
    simpa using this
 cases r with
 | nil=>exact SndR.err
 | cons t r1=>
   simp only
   by_cases c1:sgn t [93]=true
   · rw[if_pos c1]
     exact SndR.cons fun _=>SndR.ok ⟨ts,t,rfl,c1,hn⟩
   · rw[if_neg c1]
     by_cases c2:sgn t [44]=true
     · rw[if_pos c2]
       refine SndR.cons fun _=>SndR.imp ?_ (h.S (k+1) (pre++ts++[t]) (acc++a') r1 (Or.inr ⟨pre++ts,t,by simpa using hn,c2,rfl⟩))
       rintro us' e ⟨us,u,h1,h2,h3⟩
       subst h1
       exact⟨ts++t::us,u,by simp,h2,by simpa using h3⟩
     · rw[if_neg c2];exact SndR.err
theorem snd_K {n:Nat}(h:Snd n)(k:Nat)(nm:List UInt8)(pre:List Tk)(acc:List Nd)(l:List Tk)(hp:recP k nm acc pre):
 SndR l (fun ts e=>∃us u k' nm' x,ts=us++[u]∧sgn u [125]=true∧e=mkN 6 k' [] []::x∧Der 10 (pre++us) (mkN 6 k' nm' []::x)) (pK (n+1) k nm acc l):=by
 have e:pK (n+1) k nm acc l=must (fun u=>u.kind == 1 && decide (Lib.compareBytes nm u.l<0)) l fun u r0=>must (fun v=>sgn v [58]) r0 fun _ r1=>
  andR (pE n 0 r1) fun a' r=>
   match r with
   | []=>some (.error (0,1))
   | t::r2=>if sgn t [125]=true then some (.ok (mkN 6 ((k:Int)+1) [] []::(acc++(mkN 7 0 u.l []::a')),r2))else if comR u.l t=true then pK n (k+1) u.l (acc++(mkN 7 0 u.l []::a')) r2 else some (.error (r2.length+1,1)):=by
  rw[pK.eq_def];first | done | rfl
 rw[e]
 refine SndR.need fun u r0 _ hu=>SndR.need fun c r1 _ hc=>SndR.and (h.E 0 r1 (by omega)) fun ts a' r hd=>?_
 rw[Bool.and_eq_true]at hu
 have hu1:u.kind=1:=by simpa using hu.1
 have hu2:Lib.compareBytes nm u.l<0:=of_decide_eq_true hu.2
 have hn:Der 10 (pre++u::c::ts) (mkN 6 ((k:Int)+1) u.l []::(acc++(mkN 7 0 u.l []::a'))):=by
  rcases hp with⟨h1,h2,h3,h4⟩ | ⟨p,t,h1,h2,h3⟩
  · subst h1 h2 h3 h4;exact Der.fone u c ts a' hu1 hu2 hc hd
  · subst h3
    have:=Der.fmore t u c k nm p ts acc a' h2 hu1 hu2 hc h1 hd
    simpa using this
 cases r with
 | nil=>exact SndR.err
 | cons t r2=>
   simp only
   by_cases c1:sgn t [125]=true
   · rw[if_pos c1]
     exact SndR.cons fun _=>SndR.ok ⟨u::c::ts,t,_,_,_,by simp,c1,rfl,hn⟩
   · rw[if_neg c1]
     by_cases c2:comR u.l t=true
     · rw[if_pos c2]
       refine SndR.cons fun _=>SndR.imp ?_ (h.K (k+1) u.l (pre++u::c::ts++[t]) _ r2 (Or.inr ⟨pre++u::c::ts,t,by simpa using hn,c2,rfl⟩))
       rintro us' e ⟨us,v,k',nm',x,h1,h2,h3,h4⟩
       subst h1
       exact⟨u::c::(ts++t::us),v,k',nm',x,by simp,h2,h3,by simpa using h4⟩
     · rw[if_neg c2];exact SndR.err
theorem snd_atom {n:Nat}(h:Snd n)(l:List Tk):SndR l (Der 8) (pE (n+1) 8 l):=by
 cases l with
 | nil=>
   have e:pE (n+1) 8 []=some (.error (0,1)):=by rw[pE.eq_def];first | done | rfl
   rw[e];exact SndR.err
 | cons t r=>
   have e:pE (n+1) 8 (t::r)=(if (t.kind == 2)=true then(if great t false=true then some (.error (r.length+1,5))else some (.ok ([numN t false],r)))
    else if (t.kind == 3)=true then some (.ok ([mkN 3 0 t.l []],r))
    else if (t.kind == 4)=true then some (.ok ([mkN 8 0 (63::t.l) []],r))
    else if (t.kind == 1)=true then
     (if nextS r [58,58]=true then must (fun u=>u.kind == 3) r.tail fun u r2=>some (.ok ([mkN 4 0 t.l u.l],r2))
      else if (t.l == wTrue)=true then some (.ok ([mkN 1 1 [] []],r))
      else if (t.l == wFalse)=true then some (.ok ([mkN 1 0 [] []],r))
      else if rsv t.l=true then some (.error (r.length,1))
      else some (.ok ([mkN 8 0 t.l []],r)))
    else if (t.l == [45])=true then must (fun u=>u.kind == 2) r fun u r2=>(if great u true=true then some (.error (r2.length+1,5))else some (.ok ([numN u true],r2)))
    else if (t.l == [40])=true then andR (pE n 0 r) fun a r1=>must (fun u=>sgn u [41]) r1 fun _ r2=>some (.ok (a,r2))
    else if (t.l == [91])=true then(if nextS r [93]=true then some (.ok ([mkN 5 0 [] []],r.tail))else pS n 0 [] r)
    else if (t.l == [123])=true then(if nextS r [125]=true then some (.ok ([mkN 6 0 [] []],r.tail))else pK n 0 [] [] r)
    else some (.error (r.length+1,1))):=by rw[pE.eq_def];first | done | rfl
   rw[e]
   refine SndR.cons fun hk=>?_
   by_cases k2:(t.kind == 2)=true
   · rw[if_pos k2]
     have k2':t.kind=2:=by simpa using k2
     by_cases g:great t false=true
     · rw[if_pos g];exact SndR.err
     · rw[if_neg g];exact SndR.ok (Der.num t k2' (by simpa using g))
   rw[if_neg k2]
   by_cases k3:(t.kind == 3)=true
   · rw[if_pos k3];exact SndR.ok (Der.text t (by simpa using k3))
   rw[if_neg k3]
   by_cases k4:(t.kind == 4)=true
   · rw[if_pos k4];exact SndR.ok (Der.slot t (by simpa using k4))
   rw[if_neg k4]
   by_cases k1:(t.kind == 1)=true
   · rw[if_pos k1]
     have k1':t.kind=1:=by simpa using k1
     by_cases c1:nextS r [58,58]=true
     · rw[if_pos c1]
       cases r with
       | nil=>cases c1
       | cons u r1=>
         exact SndR.cons fun _=>SndR.need fun v r2 _ hv=>SndR.ok (Der.ent t u v k1' c1 (by simpa using hv))
     · rw[if_neg c1]
       by_cases c2:(t.l == wTrue)=true
       · rw[if_pos c2];exact SndR.ok (Der.yes t (by unfold nam;rw[k1,c2];rfl))
       · rw[if_neg c2]
         by_cases c3:(t.l == wFalse)=true
         · rw[if_pos c3];exact SndR.ok (Der.no t (by unfold nam;rw[k1,c3];rfl))
         · rw[if_neg c3]
           by_cases c4:rsv t.l=true
           · rw[if_pos c4];exact SndR.err
           · rw[if_neg c4];exact SndR.ok (Der.var t k1' (by simpa using c2) (by simpa using c3) (by simpa using c4))
   rw[if_neg k1]
   have k5:t.kind=5:=by
    unfold kOk at hk;simp only[Bool.or_eq_true]at hk
    rcases hk with(((h1 | h1) | h1) | h1) | h1
    · exact absurd h1 k1
    · exact absurd h1 k2
    · exact absurd h1 k3
    · exact absurd h1 k4
    · simpa using h1
   have sg:∀a:List UInt8,(t.l == a)=true→sgn t a=true:=fun a ha=>by unfold sgn;rw[k5,ha];rfl
   by_cases c1:(t.l == [45])=true
   · rw[if_pos c1]
     refine SndR.need fun u r2 _ hu=>?_
     by_cases g:great u true=true
     · rw[if_pos g];exact SndR.err
     · rw[if_neg g];exact SndR.ok (Der.mnum t u (sg _ c1) (by simpa using hu) (by simpa using g))
   rw[if_neg c1]
   by_cases c2:(t.l == [40])=true
   · rw[if_pos c2]
     exact SndR.and (h.E 0 r (by omega)) fun ts a r1 ha=>SndR.need fun u r2 _ hu=>SndR.ok (Der.round t u ts a (sg _ c2) hu ha)
   rw[if_neg c2]
   by_cases c3:(t.l == [91])=true
   · rw[if_pos c3]
     by_cases c4:nextS r [93]=true
     · rw[if_pos c4]
       cases r with
       | nil=>cases c4
       | cons u r1=>exact SndR.cons fun _=>SndR.ok (Der.set0 t u (sg _ c3) c4)
     · rw[if_neg c4]
       refine SndR.imp ?_ (h.S 0 [] [] r (Or.inl ⟨rfl,rfl,rfl⟩))
       rintro us' e ⟨us,u,h1,h2,h3⟩
       subst h1
       exact Der.set t u us e (sg _ c3) h2 h3
   rw[if_neg c3]
   by_cases c5:(t.l == [123])=true
   · rw[if_pos c5]
     by_cases c4:nextS r [125]=true
     · rw[if_pos c4]
       cases r with
       | nil=>cases c4
       | cons u r1=>exact SndR.cons fun _=>SndR.ok (Der.rec0 t u (sg _ c5) c4)
     · rw[if_neg c4]
       refine SndR.imp ?_ (h.K 0 [] [] [] r (Or.inl ⟨rfl,rfl,rfl,rfl⟩))
       rintro us' e ⟨us,v,k',nm',x,h1,h2,h3,h4⟩
       subst h1 h3
       exact Der.fields t v k' nm' us x (sg _ c5) h2 h4
   · rw[if_neg c5];exact SndR.err
theorem snd_all:∀n,Snd n
 | 0=>snd_zero
 | n+1=>by
   have h:=snd_all n
   refine⟨fun lvl l hl=>?_,fun lvl pre a l hl hd=>snd_L h lvl pre a l hl hd,fun pre a l hd=>snd_P h pre a l hd,fun k pre acc l hp=>snd_S h k pre acc l hp,fun k nm pre acc l hp=>snd_K h k nm pre acc l hp⟩
   have left:∀lvl,lftL lvl→SndR l (Der lvl) (pE (n+1) lvl l):=by
    intro lvl hl
    have e:pE (n+1) lvl l=andR (pE n (lvl+1) l) fun a r=>pL n lvl a r:=by
     rw[pE.eq_def]
     rcases hl with hl | hl | hl | hl<;>subst hl<;>rfl
    rw[e]
    exact SndR.and (h.E (lvl+1) l (by unfold lftL at hl;omega)) fun ts a r ha=>h.L lvl ts a r hl (Der.up lvl ts a (by unfold lftL at hl;omega) ha)
   match lvl,hl with
   | 0,_=>
     cases l with
     | nil=>
       have e:pE (n+1) 0 []=pE n 1 []:=by rw[pE.eq_def];first | done | rfl
       rw[e];exact SndR.imp (fun ts e hd=>Der.up 0 ts e (by omega) hd) (h.E 1 [] (by omega))
     | cons t r=>
       by_cases c:(nam t wIf && !nextS r [58,58])=true
       · have e:pE (n+1) 0 (t::r)=andR (pE n 0 r) fun a r1=>must (fun u=>nam u wThen) r1 fun _ r2=>andR (pE n 0 r2) fun b r3=>must (fun u=>nam u wElse) r3 fun _ r4=>
          andR (pE n 0 r4) fun c r5=>some (.ok (opN 13::(a++(b++c)),r5)):=by
          rw[pE.eq_def];simp only[if_true,c]
         rw[e]
         rw[Bool.and_eq_true]at c
         refine SndR.cons fun _=>SndR.and (h.E 0 r (by omega)) fun ts a r1 ha=>SndR.need fun u r2 _ hu=>SndR.and (h.E 0 r2 (by omega)) fun us b r3 hb=>SndR.need fun v r4 _ hv=>
          SndR.and (h.E 0 r4 (by omega)) fun vs z r5 hz=>SndR.ok ?_
         simpa using Der.ite t u v ts us vs a b z c.1 hu hv ha hb hz
       · have e:pE (n+1) 0 (t::r)=pE n 1 (t::r):=by rw[pE.eq_def];simp only[if_true,if_neg c]
         rw[e];exact SndR.imp (fun ts e hd=>Der.up 0 ts e (by omega) hd) (h.E 1 _ (by omega))
   | 1,_=>exact left 1 (Or.inl rfl)
   | 2,_=>exact left 2 (Or.inr (Or.inl rfl))
   | 3,_=>
     have e:pE (n+1) 3 l=andR (pE n 4 l) fun a r=>
      match r with
      | []=>some (.ok (a,[]))
      | t::r1=>
        if relS t=true then andR (pE n 4 r1) fun b r2=>some (.ok (opN (opOf t)::(a++b),r2))
        else if hasS t=true then must (fun u=>u.kind == 1) r1 fun u r2=>some (.ok (mkN (if nam t wHas=true then 21 else 24) 0 u.l []::a,r2))
        else if nam t wLike=true then must (fun u=>u.kind == 3) r1 fun u r2=>some (.ok (mkN 23 0 u.l []::a,r2))
        else some (.ok (a,t::r1)):=by rw[pE.eq_def];first | done | rfl
     rw[e]
     refine SndR.and (h.E 4 l (by omega)) fun ts a r ha=>?_
     have hup:Der 3 (ts++[]) a:=by rw[List.append_nil];exact Der.up 3 ts a (by omega) ha
     cases r with
     | nil=>exact SndR.ok hup
     | cons t r1=>
       simp only
       by_cases c1:relS t=true
       · rw[if_pos c1]
         exact SndR.cons fun _=>SndR.and (h.E 4 r1 (by omega)) fun us b r2 hb=>SndR.ok (by simpa using Der.rel t ts us a b c1 ha hb)
       · rw[if_neg c1]
         by_cases c2:hasS t=true
         · rw[if_pos c2]
           exact SndR.cons fun _=>SndR.need fun u r2 _ hu=>SndR.ok (Der.has t u ts a c2 (by simpa using hu) ha)
         · rw[if_neg c2]
           by_cases c3:nam t wLike=true
           · rw[if_pos c3]
             exact SndR.cons fun _=>SndR.need fun u r2 _ hu=>SndR.ok (Der.like t u ts a c3 (by simpa using hu) ha)
           · rw[if_neg c3];exact SndR.ok hup
   | 4,_=>exact left 4 (Or.inr (Or.inr (Or.inl rfl)))
   | 5,_=>exact left 5 (Or.inr (Or.inr (Or.inr rfl)))
   | 6,_=>
     cases l with
     | nil=>
       have e:pE (n+1) 6 []=pE n 7 []:=by rw[pE.eq_def];first | done | rfl
       rw[e];exact SndR.imp (fun ts e hd=>Der.up 6 ts e (by omega) hd) (h.E 7 [] (by omega))
     | cons t r=>
       by_cases c1:sgn t [33]=true
       · have e:pE (n+1) 6 (t::r)=andR (pE n 6 r) fun a r1=>some (.ok (opN 9::a,r1)):=by rw[pE.eq_def];simp[c1]
         rw[e]
         exact SndR.cons fun _=>SndR.and (h.E 6 r (by omega)) fun ts a r1 ha=>SndR.ok (by simpa using Der.not t ts a c1 ha)
       · by_cases c2:(sgn t [45] && !nextNum r)=true
         · have e:pE (n+1) 6 (t::r)=andR (pE n 6 r) fun a r1=>some (.ok (opN 10::a,r1)):=by rw[pE.eq_def];simp[c1,c2]
           rw[e]
           rw[Bool.and_eq_true]at c2
           intro hk e' r' he
           have:SndR (t::r) (fun ts x=>∃us y,ts=t::us∧x=opN 10::y∧Der 6 us y) (andR (pE n 6 r) fun a r1=>some (.ok (opN 10::a,r1))):=
            SndR.cons fun _=>SndR.and (h.E 6 r (by omega)) fun ts a r1 ha=>SndR.ok ⟨ts,a,by simp,rfl,ha⟩
           obtain⟨ts,h1,us,y,h2,h3,h4⟩:=this hk e' r' he
           refine⟨ts,h1,?_⟩
           subst h2 h3
           refine Der.neg t us y c2.1 ?_ h4
           cases us with
           | nil=>exact absurd rfl h4.ne
           | cons u us=>
             injection h1 with _ h1
             rw[h1]at c2
             simpa[nextNum]using c2.2
         · have e:pE (n+1) 6 (t::r)=pE n 7 (t::r):=by rw[pE.eq_def];simp[c1,c2]
           rw[e];exact SndR.imp (fun ts e hd=>Der.up 6 ts e (by omega) hd) (h.E 7 _ (by omega))
   | 7,_=>
     have e:pE (n+1) 7 l=andR (pE n 8 l) fun a r=>pP n a r:=by rw[pE.eq_def];first | done | rfl
     rw[e]
     exact SndR.and (h.E 8 l (by omega)) fun ts a r ha=>h.P ts a r (Der.up 7 ts a (by omega) ha)
   | 8,_=>exact snd_atom h l
end Go.Proofs.YtgbljlabifpmgaaGreatDoor
