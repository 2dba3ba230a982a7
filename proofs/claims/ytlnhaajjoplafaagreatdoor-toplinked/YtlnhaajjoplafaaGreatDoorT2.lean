import Derived.Lib.Bytealg
import Derived.Test.YtlnhaajjoplafaaGreatDoorT1
set_option linter.unusedVariables false
set_option maxHeartbeats 12000000
namespace Go.Proofs.YtlnhaajjoplafaaGreatDoor
theorem cb_cons (x y:UInt8)(l m:List UInt8):Lib.compareBytes (x::l) (y::m)=if x<y then-1 else if y<x then 1 else Lib.compareBytes l m:=rfl
theorem cb_range:∀(l m:List UInt8),Lib.compareBytes l m= -1∨Lib.compareBytes l m=0∨Lib.compareBytes l m=1
 | [],[]=>Or.inr (Or.inl rfl)
 | [],_::_=>Or.inl rfl
 | _::_,[]=>Or.inr (Or.inr rfl)
 | x::l,y::m=>by
   rw[cb_cons]
   by_cases h:x<y
   · rw[if_pos h];exact Or.inl rfl
   · rw[if_neg h]
     by_cases k:y<x
     · rw[if_pos k];exact Or.inr (Or.inr rfl)
     · rw[if_neg k];exact cb_range l m
theorem cb_neg:∀(l m:List UInt8),Lib.compareBytes l m= -Lib.compareBytes m l
 | [],[]=>rfl
 | [],_::_=>rfl
 | _::_,[]=>rfl
 | x::l,y::m=>by
   rw[cb_cons,cb_cons]
   by_cases h:x<y
   · have k:¬y<x:=by rw[UInt8.lt_iff_toNat_lt]at h ⊢; omega
     rw[if_pos h,if_neg k,if_pos h]
   · rw[if_neg h]
     by_cases k:y<x
     · rw[if_pos k,if_pos k];rfl
     · rw[if_neg k,if_neg k,if_neg h];exact cb_neg l m
theorem cb_zero:∀(l m:List UInt8),Lib.compareBytes l m=0↔l=m
 | [],[]=>⟨fun _=>rfl,fun _=>rfl⟩
 | [],_::_=>⟨fun h=>absurd h (show ¬(-1:Int)=0 by decide),fun h=>(List.cons_ne_nil _ _ h.symm).elim⟩
 | _::_,[]=>⟨fun h=>absurd h (show ¬(1:Int)=0 by decide),fun h=>(List.cons_ne_nil _ _ h).elim⟩
 | x::l,y::m=>by
   rw[cb_cons]
   by_cases h:x<y
   · rw[if_pos h]
     refine⟨fun e=>absurd e (by decide),fun e=>?_⟩
     injection e with e1 _
     subst e1
     rw[UInt8.lt_iff_toNat_lt]at h;omega
   · rw[if_neg h]
     by_cases k:y<x
     · rw[if_pos k]
       refine⟨fun e=>absurd e (by decide),fun e=>?_⟩
       injection e with e1 _
       subst e1
       rw[UInt8.lt_iff_toNat_lt]at k;omega
     · rw[if_neg k]
       have hxy:x=y:=by
        rw[UInt8.lt_iff_toNat_lt]at h k
        apply UInt8.toNat_inj.1;omega
       subst hxy
       rw[cb_zero l m]
       exact⟨fun e=>by rw[e],fun e=>by injection e⟩
theorem cb_trans:∀(l m n:List UInt8),Lib.compareBytes l m≤0→Lib.compareBytes m n≤0→Lib.compareBytes l n≤0
 | [],_,[],_,_=>Int.le_refl _
 | [],_,_::_,_,_=>(show(-1:Int)≤0 by decide)
 | _::_,[],_,h,_=>absurd h (show ¬(1:Int)≤0 by decide)
 | _::_,_::_,[],_,h=>absurd h (show ¬(1:Int)≤0 by decide)
 | x::l,y::m,z::n,h1,h2=>by
   rw[cb_cons]at h1 h2 ⊢
   by_cases a1:x<y
   · by_cases b1:y<z
     · have c:x<z:=by rw[UInt8.lt_iff_toNat_lt]at a1 b1 ⊢; omega
       rw[if_pos c];decide
     · rw[if_neg b1]at h2
       by_cases b2:z<y
       · rw[if_pos b2]at h2;exact absurd h2 (by decide)
       · have c:x<z:=by rw[UInt8.lt_iff_toNat_lt]at a1 b1 b2 ⊢; omega
         rw[if_pos c];decide
   · rw[if_neg a1]at h1
     by_cases a2:y<x
     · rw[if_pos a2]at h1;exact absurd h1 (by decide)
     · rw[if_neg a2]at h1
       by_cases b1:y<z
       · have c:x<z:=by rw[UInt8.lt_iff_toNat_lt]at a1 a2 b1 ⊢; omega
         rw[if_pos c];decide
       · rw[if_neg b1]at h2
         by_cases b2:z<y
         · rw[if_pos b2]at h2;exact absurd h2 (by decide)
         · rw[if_neg b2]at h2
           have c1:¬x<z:=by rw[UInt8.lt_iff_toNat_lt]at a1 a2 b1 b2 ⊢; omega
           have c2:¬z<x:=by rw[UInt8.lt_iff_toNat_lt]at a1 a2 b1 b2 ⊢; omega
           rw[if_neg c1,if_neg c2]
           exact cb_trans l m n h1 h2
def uc (a b c d:List UInt8):Int:=if Lib.compareBytes a c=0 then Lib.compareBytes b d else Lib.compareBytes a c
theorem uc_range (a b c d:List UInt8):uc a b c d= -1∨uc a b c d=0∨uc a b c d=1:=by
 unfold uc;split
 · exact cb_range _ _
 · exact cb_range _ _
theorem uc_neg (a b c d:List UInt8):uc a b c d= -uc c d a b:=by
 unfold uc
 have h:=cb_neg a c
 by_cases k:Lib.compareBytes a c=0
 · have k2:Lib.compareBytes c a=0:=by omega
   rw[if_pos k,if_pos k2];exact cb_neg _ _
 · have k2:¬Lib.compareBytes c a=0:=by omega
   rw[if_neg k,if_neg k2];exact h
theorem uc_zero (a b c d:List UInt8):uc a b c d=0↔a=c∧b=d:=by
 unfold uc
 by_cases k:Lib.compareBytes a c=0
 · rw[if_pos k,cb_zero]
   exact⟨fun h=>⟨(cb_zero _ _).1 k,h⟩,fun h=>h.2⟩
 · rw[if_neg k]
   exact⟨fun h=>absurd h k,fun h=>absurd ((cb_zero _ _).2 h.1) k⟩
theorem uc_trans (a b c d e f:List UInt8)(h1:uc a b c d≤0)(h2:uc c d e f≤0):uc a b e f≤0:=by
 unfold uc at h1 h2 ⊢
 by_cases k1:Lib.compareBytes a c=0
 · rw[if_pos k1]at h1
   have e1:=(cb_zero _ _).1 k1
   subst e1
   by_cases k2:Lib.compareBytes a e=0
   · rw[if_pos k2]at h2
     rw[if_pos k2];exact cb_trans _ _ _ h1 h2
   · rw[if_neg k2]at h2
     rw[if_neg k2];exact h2
 · rw[if_neg k1]at h1
   by_cases k2:Lib.compareBytes c e=0
   · have e2:=(cb_zero _ _).1 k2
     subst e2
     rw[if_neg k1];exact h1
   · rw[if_neg k2]at h2
     have h3:=cb_trans _ _ _ h1 h2
     by_cases k3:Lib.compareBytes a e=0
     · have e3:=(cb_zero _ _).1 k3
       subst e3
       have:=cb_neg a c
       omega
     · rw[if_neg k3];exact h3
theorem cb_step (s t:ByteArray)(k:Nat)(hs:k<s.size)(ht:k<t.size):
 Lib.compareBytes (s.data.toList.drop k) (t.data.toList.drop k)=if (s[k].toNat:Int)<(t[k].toNat:Int)then-1 else if (t[k].toNat:Int)<(s[k].toNat:Int)then 1 else Lib.compareBytes (s.data.toList.drop (k+1)) (t.data.toList.drop (k+1)):=by
 have e1:s.data.toList.drop k=s[k]::s.data.toList.drop (k+1):=by
  rw[List.drop_eq_getElem_cons (by simpa using hs)];rfl
 have e2:t.data.toList.drop k=t[k]::t.data.toList.drop (k+1):=by
  rw[List.drop_eq_getElem_cons (by simpa using ht)];rfl
 rw[e1,e2,cb_cons]
 simp only[UInt8.lt_iff_toNat_lt,Int.ofNat_lt]
theorem cb_end (s t:ByteArray)(k:Nat)(hk:k≤s.size)(hk2:k≤t.size)(h:k=s.size∨k=t.size):
 Lib.compareBytes (s.data.toList.drop k) (t.data.toList.drop k)=if s.size<t.size then-1 else if t.size<s.size then 1 else 0:=by
 have ls:s.data.toList.length=s.size:=by simp
 have lt:t.data.toList.length=t.size:=by simp
 rcases h with h | h
 · rw[List.drop_of_length_le (by omega:s.data.toList.length≤k)]
   by_cases q:s.size<t.size
   · rw[if_pos q]
     rw[List.drop_eq_getElem_cons (by omega:k<t.data.toList.length)];rfl
   · rw[if_neg q,if_neg (by omega),List.drop_of_length_le (by omega:t.data.toList.length≤k)];rfl
 · rw[List.drop_of_length_le (by omega:t.data.toList.length≤k)]
   by_cases q:t.size<s.size
   · rw[if_neg (by omega),if_pos q]
     rw[List.drop_eq_getElem_cons (by omega:k<s.data.toList.length)];rfl
   · rw[if_neg (by omega),if_neg q,List.drop_of_length_le (by omega:s.data.toList.length≤k)];rfl
end Go.Proofs.YtlnhaajjoplafaaGreatDoor
namespace Go.Proofs.YtlnhaajjoplafaaGreatDoor
structure Nd where
 op:Int
 n:Int
 s:ByteArray
 t:ByteArray
structure IsCmp {α :Type}(c: α → α →Int):Prop where
 range:∀x y,c x y= -1∨c x y=0∨c x y=1
 neg:∀x y,c x y= -c y x
 zero:∀x y,c x y=0↔x=y
 trans:∀x y z,c x y≤0→c y z≤0→c x z≤0
namespace IsCmp
variable {α β :Type} {c: α → α →Int} {d: β → β →Int}
theorem self (h:IsCmp c)(x: α):c x x=0:=(h.zero x x).2 rfl
theorem lt_le (h:IsCmp c){x y z: α}(h1:c x y<0)(h2:c y z≤0):c x z<0:=by
 have h3:=h.trans x y z (by omega) h2
 rcases Int.lt_or_eq_of_le h3 with h4 | h4
 · exact h4
 · obtain rfl:=(h.zero x z).1 h4
   have:=h.neg x y
   omega
theorem le_lt (h:IsCmp c){x y z: α}(h1:c x y≤0)(h2:c y z<0):c x z<0:=by
 have h3:=h.trans x y z h1 (by omega)
 rcases Int.lt_or_eq_of_le h3 with h4 | h4
 · exact h4
 · obtain rfl:=(h.zero x z).1 h4
   have:=h.neg x y
   omega
def both (c: α → α →Int)(d: β → β →Int)(x y: α × β):Int:=if c x.1 y.1=0 then d x.2 y.2 else c x.1 y.1
theorem both_is (h:IsCmp c)(k:IsCmp d):IsCmp (both c d) where
 range x y:=by unfold both;split;exact k.range _ _;exact h.range _ _
 neg x y:=by
  unfold both
  have:=h.neg x.1 y.1
  by_cases e:c x.1 y.1=0
  · rw[if_pos e,if_pos (by omega)];exact k.neg _ _
  · rw[if_neg e,if_neg (by omega)];exact this
 zero x y:=by
  obtain⟨x1,x2⟩:=x
  obtain⟨y1,y2⟩:=y
  unfold both
  by_cases e:c x1 y1=0
  · simp only[e,if_pos];rw[k.zero,Prod.mk.injEq];exact⟨fun q=>⟨(h.zero _ _).1 e,q⟩,fun q=>q.2⟩
  · simp only[e,if_false];rw[Prod.mk.injEq];exact⟨fun q=>q.elim,fun q=>e ((h.zero _ _).2 q.1)⟩
 trans x y z h1 h2:=by
  obtain⟨x1,x2⟩:=x
  obtain⟨y1,y2⟩:=y
  obtain⟨z1,z2⟩:=z
  unfold both at *
  simp only at *
  by_cases e1:c x1 y1=0
  · obtain rfl:=(h.zero _ _).1 e1
    by_cases e2:c x1 z1=0
    · rw[if_pos e1]at h1
      rw[if_pos e2]at h2 ⊢
      exact k.trans _ _ _ h1 h2
    · rw[if_neg e2]at h2 ⊢
      exact h2
  · rw[if_neg e1]at h1
    by_cases e2:c y1 z1=0
    · obtain rfl:=(h.zero _ _).1 e2
      rw[if_neg e1];exact h1
    · rw[if_neg e2]at h2
      have:=h.lt_le (x:=x1) (y:=y1) (z:=z1) (by omega) h2
      rw[if_neg (by omega)];omega
theorem map_is {γ :Type}(h:IsCmp c)(f: γ → α)(hf:∀x y,f x=f y→x=y):IsCmp (fun x y=>c (f x) (f y)) where
 range x y:=h.range _ _
 neg x y:=h.neg _ _
 zero x y:=(h.zero _ _).trans ⟨hf x y,fun e=>by rw[e]⟩
 trans x y z:=h.trans _ _ _
def lists (c: α → α →Int):List α →List α →Int
 | [],[]=>0
 | [],_::_=> -1
 | _::_,[]=>1
 | x::l,y::m=>if c x y=0 then lists c l m else c x y
theorem lists_is (h:IsCmp c):IsCmp (lists c) where
 range x y:=by
  induction x generalizing y with
  | nil=>cases y<;>simp[lists]
  | cons a l ih=>cases y with
    | nil=>simp[lists]
    | cons b m=>simp only[lists];split;exact ih m;exact h.range _ _
 neg x y:=by
  induction x generalizing y with
  | nil=>cases y<;>simp[lists]
  | cons a l ih=>cases y with
    | nil=>simp[lists]
    | cons b m=>
      simp only[lists]
      have:=h.neg a b
      by_cases e:c a b=0
      · rw[if_pos e,if_pos (by omega)];exact ih m
      · rw[if_neg e,if_neg (by omega)];exact this
 zero x y:=by
  induction x generalizing y with
  | nil=>cases y<;>simp[lists]
  | cons a l ih=>cases y with
    | nil=>simp[lists]
    | cons b m=>
      simp only[lists]
      by_cases e:c a b=0
      · rw[if_pos e,ih m,(h.zero _ _).1 e];simp
      · rw[if_neg e]
        exact⟨fun q=>(e q).elim,fun q=>by injection q with q1 q2;exact(h.zero _ _).2 q1⟩
 trans x y z h1 h2:=by
  induction x generalizing y z with
  | nil=>cases z<;>simp[lists]
  | cons a l ih=>cases y with
    | nil=>simp[lists]at h1
    | cons b m=>cases z with
      | nil=>simp[lists]at h2
      | cons d n=>
        simp only[lists]at *
        by_cases e1:c a b=0
        · obtain rfl:=(h.zero _ _).1 e1
          rw[if_pos e1]at h1
          by_cases e2:c a d=0
          · rw[if_pos e2]at h2 ⊢; exact ih m n h1 h2
          · rw[if_neg e2]at h2 ⊢; exact h2
        · rw[if_neg e1]at h1
          by_cases e2:c b d=0
          · obtain rfl:=(h.zero _ _).1 e2
            rw[if_neg e1];exact h1
          · rw[if_neg e2]at h2
            have:=h.lt_le (x:=a) (y:=b) (z:=d) (by omega) h2
            rw[if_neg (by omega)];omega
end IsCmp
def cmpI (a b:Int):Int:=if a<b then-1 else if b<a then 1 else 0
theorem cmpI_is:IsCmp cmpI where
 range x y:=by unfold cmpI;split;simp;split<;>simp
 neg x y:=by unfold cmpI;repeat' split<;>omega
 zero x y:=by unfold cmpI;constructor<;>intro h<;>(repeat' split at *)<;>omega
 trans x y z h1 h2:=by unfold cmpI at *; repeat' split at * <;>omega
def cmpB (a b:ByteArray):Int:=Lib.compareBytes a.data.toList b.data.toList
theorem bytes_inj {a b:ByteArray}(h:a.data.toList=b.data.toList):a=b:=by
 obtain⟨⟨a⟩⟩:=a
 obtain⟨⟨b⟩⟩:=b
 simp at h
 rw[h]
theorem cmpB_is:IsCmp cmpB where
 range x y:=cb_range _ _
 neg x y:=cb_neg _ _
 zero x y:=(cb_zero _ _).trans ⟨bytes_inj,fun h=>by rw[h]⟩
 trans x y z:=cb_trans _ _ _
def orI:List Int→Int
 | []=>0
 | x::l=>if x=0 then orI l else x
def ndC (x y:Nd):Int:=orI [cmpI x.op y.op,cmpI x.n y.n,cmpB x.s y.s,cmpB x.t y.t]
theorem ndC_is:IsCmp ndC:=by
 have h:=(cmpI_is.both_is (cmpI_is.both_is (cmpB_is.both_is cmpB_is))).map_is (γ :=Nd) (fun x=>(x.op,x.n,x.s,x.t)) (fun x y e=>by
  obtain⟨a,b,c,d⟩:=x
  obtain⟨a',b',c',d'⟩:=y
  simp at e
  simp[e])
 have e:(fun x y:Nd=>IsCmp.both cmpI (IsCmp.both cmpI (IsCmp.both cmpB cmpB)) (x.op,x.n,x.s,x.t) (y.op,y.n,y.s,y.t))=ndC:=by
  funext x y
  simp only[ndC,orI,IsCmp.both]
  repeat' split
  all_goals first | rfl | assumption | (symm;assumption)
 rw[←e];exact h
def lsC:List Nd→List Nd→Int:=IsCmp.lists ndC
theorem lsC_is:IsCmp lsC:=ndC_is.lists_is
def ndOk (x:Nd):Bool:=
 if x.op=1 then x.s.data.toList.isEmpty && x.t.data.toList.isEmpty && (x.n == 0 || x.n == 1)
 else if x.op=2 then x.s.data.toList.isEmpty && x.t.data.toList.isEmpty
 else if x.op=3 then x.n == 0 && x.t.data.toList.isEmpty && textOk x.s.data.toList
 else if x.op=4 then x.n == 0 && nfault x.s.data.toList == 0 && textOk x.t.data.toList
 else if x.op=5∨x.op=6 then x.s.data.toList.isEmpty && x.t.data.toList.isEmpty && decide (0≤x.n)
 else if x.op=7 then x.n == 0 && x.t.data.toList.isEmpty && nfault x.s.data.toList == 0
 else false
def aheadOf (last:Option (List Nd))(part:List Nd):Bool:=
 match last with
 | none=>true
 | some l=>decide (lsC l part<0)
def setLoop (pv:List Nd→Option (List Nd)):Nat→Option (List Nd)→List Nd→Option (List Nd)
 | 0,_,v=>some v
 | k+1,last,v=>
   match pv v with
   | none=>none
   | some rest=>if aheadOf last (v.take (v.length-rest.length))then setLoop pv k (some (v.take (v.length-rest.length))) rest else none
def recLoop (pv:List Nd→Option (List Nd)):Nat→ByteArray→List Nd→Option (List Nd)
 | 0,_,v=>some v
 | _+1,_,[]=>none
 | k+1,last,x::r=>
   if x.op=7∧ndOk x=true∧cmpB last x.s<0 then
    match pv r with
    | none=>none
    | some rest=>recLoop pv k x.s rest
   else none
def pastV:Nat→List Nd→Option (List Nd)
 | 0,_=>none
 | _+1,[]=>none
 | f+1,x::r=>
   if x.op≠7∧ndOk x=true then
    if x.op=5 then setLoop (pastV f) x.n.toNat none r
    else if x.op=6 then recLoop (pastV f) x.n.toNat ⟨#[]⟩ r
    else some r
   else none
def IsTail (r v:List Nd):Prop:=∃a,v=a++r
theorem IsTail.refl (v:List Nd):IsTail v v:=⟨[],rfl⟩
theorem IsTail.trans {a b c:List Nd}(h:IsTail a b)(k:IsTail b c):IsTail a c:=by
 obtain⟨x,rfl⟩:=h
 obtain⟨y,rfl⟩:=k
 exact⟨y++x,by simp⟩
theorem IsTail.cons {a b:List Nd}(x:Nd)(h:IsTail a b):IsTail a (x::b):=by obtain⟨y,rfl⟩:=h;exact⟨x::y,rfl⟩
theorem IsTail.length {a b:List Nd}(h:IsTail a b):a.length≤b.length:=by obtain⟨y,rfl⟩:=h;simp
theorem setLoop_tail {pv:List Nd→Option (List Nd)}(hp:∀v r,pv v=some r→IsTail r v):∀(k:Nat) (last:Option (List Nd)) (v r:List Nd),setLoop pv k last v=some r→IsTail r v
 | 0,last,v,r,h=>by simp only[setLoop,Option.some.injEq]at h;subst h;exact IsTail.refl _
 | k+1,last,v,r,h=>by
   simp only[setLoop]at h
   cases e:pv v with
   | none=>rw[e]at h;cases h
   | some rest=>
     simp only[e]at h
     split at h
     · exact(setLoop_tail hp k _ rest r h).trans (hp _ _ e)
     · cases h
theorem recLoop_tail {pv:List Nd→Option (List Nd)}(hp:∀v r,pv v=some r→IsTail r v):∀(k:Nat) (last:ByteArray) (v r:List Nd),recLoop pv k last v=some r→IsTail r v
 | 0,last,v,r,h=>by simp only[recLoop,Option.some.injEq]at h;subst h;exact IsTail.refl _
 | k+1,last,[],r,h=>by simp[recLoop]at h
 | k+1,last,x::v,r,h=>by
   simp only[recLoop]at h
   split at h
   · cases e:pv v with
     | none=>rw[e]at h;cases h
     | some rest=>
       simp only[e]at h
       exact((recLoop_tail hp k _ rest r h).trans (hp _ _ e)).cons x
   · cases h
theorem pastV_tail:∀(f:Nat) (v r:List Nd),pastV f v=some r→∃x m,v=x::m∧IsTail r m
 | 0,v,r,h=>by simp[pastV]at h
 | f+1,[],r,h=>by simp[pastV]at h
 | f+1,x::m,r,h=>by
   have hp:∀v r,pastV f v=some r→IsTail r v:=fun v r e=>by
    obtain⟨x,m,rfl,ht⟩:=pastV_tail f v r e
    exact ht.cons x
   refine⟨x,m,rfl,?_⟩
   simp only[pastV]at h
   split at h
   · split at h
     · exact setLoop_tail hp _ _ _ _ h
     · split at h
       · exact recLoop_tail hp _ _ _ _ h
       · simp only[Option.some.injEq]at h;subst h;exact IsTail.refl _
   · cases h
theorem pastV_shorter {f:Nat}{v r:List Nd}(h:pastV f v=some r):r.length<v.length∧IsTail r v:=by
 obtain⟨x,m,rfl,ht⟩:=pastV_tail f v r h
 have:=ht.length
 exact⟨by simp;omega,ht.cons x⟩
def isVal (v:List Nd):Bool:=
 match pastV (v.length+1) v with
 | some r=>r.isEmpty
 | none=>false
def vfault (v:List Nd):Int:=if 200<v.length then 4 else if isVal v then 0 else 1
end Go.Proofs.YtlnhaajjoplafaaGreatDoor
namespace Go.Proofs.YtlnhaajjoplafaaGreatDoor
theorem setLoop_same {pv pw:List Nd→Option (List Nd)}{n:Nat}(h:∀u,u.length<n→pv u=pw u)(hs:∀u r,pv u=some r→r.length<u.length):
 ∀(k:Nat) (last:Option (List Nd)) (u:List Nd),u.length<n→setLoop pv k last u=setLoop pw k last u
 | 0,_,_,_=>rfl
 | k+1,last,u,hu=>by
   simp only[setLoop]
   rw[←h u hu]
   cases e:pv u with
   | none=>rfl
   | some rest=>
     simp only[]
     split
     · exact setLoop_same h hs k _ rest (by have:=hs u rest e;omega)
     · rfl
theorem recLoop_same {pv pw:List Nd→Option (List Nd)}{n:Nat}(h:∀u,u.length<n→pv u=pw u)(hs:∀u r,pv u=some r→r.length<u.length):
 ∀(k:Nat) (last:ByteArray) (u:List Nd),u.length<n→recLoop pv k last u=recLoop pw k last u
 | 0,_,_,_=>rfl
 | _+1,_,[],_=>rfl
 | k+1,last,x::u,hu=>by
   simp only[recLoop]
   rw[←h u (by simp at hu;omega)]
   split
   · cases e:pv u with
     | none=>rfl
     | some rest=>
       simp only[]
       exact recLoop_same h hs k _ rest (by have:=hs u rest e;simp at hu;omega)
   · rfl
theorem pastV_fuel:∀(f g:Nat) (u:List Nd),u.length<f→u.length<g→pastV f u=pastV g u
 | 0,_,_,h,_=>absurd h (by omega)
 | _+1,0,_,_,h=>absurd h (by omega)
 | _+1,_+1,[],_,_=>rfl
 | f+1,g+1,x::r,hf,hg=>by
   simp only[List.length_cons]at hf hg
   have h:∀u:List Nd,u.length<r.length+1→pastV f u=pastV g u:=fun u hu=>pastV_fuel f g u (by omega) (by omega)
   have hs:∀u r,pastV f u=some r→r.length<u.length:=fun u r e=>(pastV_shorter e).1
   simp only[pastV]
   rw[setLoop_same h hs _ _ r (by omega),recLoop_same h hs _ _ r (by omega)]
def pastF (f:Nat)(field:Bool)(u:List Nd):Option (List Nd):=
 if field then
  match u with
  | []=>none
  | x::r=>if x.op=7∧ndOk x=true then pastV f r else none
 else pastV f u
def endI (n:Nat):Option (List Nd)→Int
 | none=> -1
 | some r=>(n:Int)-(r.length:Int)
theorem name_ahead {x:Nd}(h7:x.op=7)(h:ndOk x=true):cmpB ⟨#[]⟩ x.s<0:=by
 unfold ndOk at h
 simp[h7]at h
 have hn:=h.2
 unfold cmpB
 cases e:x.s.data.toList with
 | nil=>rw[e]at hn;simp[nfault,nm,pre]at hn
 | cons c l=>simp[Lib.compareBytes]
def prt (x:Nd):Int:=
 if x.op=5∨x.op=6 then x.n
 else if 1≤x.op∧x.op≤4∨x.op=8 then 0
 else if x.op=7∨x.op=9∨x.op=10∨21≤x.op∧x.op≤24 then 1
 else if x.op=13 then 3
 else if 11≤x.op∧x.op≤20∨25≤x.op∧x.op≤27 then 2
 else-1
def rsv (l:List UInt8):Bool:=
 l == [105,102] || l == [116,104,101,110] || l == [101,108,115,101] || l == [116,114,117,101] || l == [102,97,108,115,101] ||
 l == [105,110] || l == [104,97,115] || l == [108,105,107,101] || l == [105,115]
def varOk (l:List UInt8):Bool:=if l.head? =some 63 then nfault l.tail == 0 else nfault l == 0 && !rsv l
def exOk (x:Nd):Bool:=
 if 1≤x.op∧x.op≤7 then ndOk x
 else if prt x<0 then false
 else x.n == 0 && x.t.data.toList.isEmpty &&
  (if x.op=8 then varOk x.s.data.toList
   else if x.op=21∨x.op=22∨x.op=24 then nfault x.s.data.toList == 0
   else if x.op=23 then textOk x.s.data.toList
   else x.s.data.toList.isEmpty)
def partsE (pv:List Nd→Option (List Nd)):Nat→List Nd→Option (List Nd)
 | 0,v=>some v
 | k+1,v=>
   match pv v with
   | none=>none
   | some r=>partsE pv k r
def pastE:Nat→List Nd→Option (List Nd)
 | 0,_=>none
 | _+1,[]=>none
 | f+1,x::r=>
   if x.op≠7∧exOk x=true then
    if x.op=6 then recLoop (pastE f) x.n.toNat ⟨#[]⟩ r
    else partsE (pastE f) (prt x).toNat r
   else none
theorem partsE_tail {pv:List Nd→Option (List Nd)}(hp:∀v r,pv v=some r→IsTail r v):∀(k:Nat) (v r:List Nd),partsE pv k v=some r→IsTail r v
 | 0,v,r,h=>by simp only[partsE,Option.some.injEq]at h;subst h;exact IsTail.refl _
 | k+1,v,r,h=>by
   simp only[partsE]at h
   cases e:pv v with
   | none=>rw[e]at h;cases h
   | some rest=>
     simp only[e]at h
     exact(partsE_tail hp k rest r h).trans (hp _ _ e)
theorem pastE_cons {f:Nat}{v r:List Nd}(h:pastE f v=some r):∃g x m,f=g+1∧v=x::m∧x.op≠7∧exOk x=true∧
 (x.op=6∧recLoop (pastE g) x.n.toNat ⟨#[]⟩ m=some r∨x.op≠6∧partsE (pastE g) (prt x).toNat m=some r):=by
 cases f with
 | zero=>simp[pastE]at h
 | succ g=>
   cases v with
   | nil=>simp[pastE]at h
   | cons x m=>
     simp only[pastE]at h
     split at h
     · rename_i hx
       refine⟨g,x,m,rfl,rfl,hx.1,hx.2,?_⟩
       split at h
       · exact .inl ⟨‹_›, h⟩
       · exact .inr ⟨‹_›, h⟩
     · cases h
theorem pastE_rec {g:Nat}{x:Nd}{m:List Nd}(h7:x.op≠7)(hx:exOk x=true)(h6:x.op=6):pastE (g+1) (x::m)=recLoop (pastE g) x.n.toNat ⟨#[]⟩ m:=by
 simp only[pastE];rw[if_pos ⟨h7,hx⟩,if_pos h6]
theorem pastE_parts {g:Nat}{x:Nd}{m:List Nd}(h7:x.op≠7)(hx:exOk x=true)(h6:x.op≠6):pastE (g+1) (x::m)=partsE (pastE g) (prt x).toNat m:=by
 simp only[pastE];rw[if_pos ⟨h7,hx⟩,if_neg h6]
theorem pastE_bad {g:Nat}{x:Nd}{m:List Nd}(h:¬(x.op≠7∧exOk x=true)):pastE g (x::m)=none:=by
 cases g with
 | zero=>rfl
 | succ g=>simp only[pastE];rw[if_neg h]
theorem pastE_nil (f:Nat):pastE f []=none:=by cases f<;>rfl
theorem pastE_tail:∀(f:Nat) (v r:List Nd),pastE f v=some r→∃x m,v=x::m∧IsTail r m
 | 0,v,r,h=>by simp[pastE]at h
 | f+1,v,r,h=>by
   have hp:∀v r,pastE f v=some r→IsTail r v:=fun v r e=>by
    obtain⟨x,m,rfl,ht⟩:=pastE_tail f v r e
    exact ht.cons x
   obtain⟨g,x,m,e,rfl,_,_,hr⟩:=pastE_cons h
   obtain rfl:f=g:=by omega
   refine⟨x,m,rfl,?_⟩
   rcases hr with⟨_,hr⟩ | ⟨_,hr⟩
   · exact recLoop_tail hp _ _ _ _ hr
   · exact partsE_tail hp _ _ _ hr
theorem pastE_shorter {f:Nat}{v r:List Nd}(h:pastE f v=some r):r.length<v.length∧IsTail r v:=by
 obtain⟨x,m,rfl,ht⟩:=pastE_tail f v r h
 have:=ht.length
 exact⟨by simp;omega,ht.cons x⟩
theorem partsE_same {pv pw:List Nd→Option (List Nd)}{n:Nat}(h:∀u,u.length<n→pv u=pw u)(hs:∀u r,pv u=some r→r.length<u.length):
 ∀(k:Nat) (u:List Nd),u.length<n→partsE pv k u=partsE pw k u
 | 0,_,_=>rfl
 | k+1,u,hu=>by
   simp only[partsE]
   rw[←h u hu]
   cases e:pv u with
   | none=>rfl
   | some rest=>
     simp only[]
     exact partsE_same h hs k rest (by have:=hs u rest e;omega)
theorem pastE_fuel:∀(f g:Nat) (u:List Nd),u.length<f→u.length<g→pastE f u=pastE g u
 | 0,_,_,h,_=>absurd h (by omega)
 | _+1,0,_,_,h=>absurd h (by omega)
 | _+1,_+1,[],_,_=>rfl
 | f+1,g+1,x::r,hf,hg=>by
   simp only[List.length_cons]at hf hg
   have h:∀u:List Nd,u.length<r.length+1→pastE f u=pastE g u:=fun u hu=>pastE_fuel f g u (by omega) (by omega)
   have hs:∀u r,pastE f u=some r→r.length<u.length:=fun u r e=>(pastE_shorter e).1
   simp only[pastE]
   rw[partsE_same h hs _ r (by omega),recLoop_same h hs _ _ r (by omega)]
def isEx (v:List Nd):Bool:=
 match pastE (v.length+1) v with
 | some r=>r.isEmpty
 | none=>false
def xfault (v:List Nd):Int:=if 200<v.length then 4 else if isEx v then 0 else 1
theorem isEx_iff (v:List Nd):isEx v=true↔pastE (v.length+1) v=some []:=by
 unfold isEx
 cases e:pastE (v.length+1) v with
 | none=>simp
 | some r=>cases r<;>simp
theorem xfault_long {v:List Nd}(h:200<v.length):xfault v=4:=if_pos h
theorem xfault_bad {v:List Nd}(h:¬ 200<v.length)(h2:isEx v=false):xfault v=1:=by unfold xfault;rw[if_neg h,h2];rfl
theorem xfault_ok {v:List Nd}(h:¬ 200<v.length)(h2:isEx v=true):xfault v=0:=by unfold xfault;rw[if_neg h,h2];rfl
theorem xfault_zero {v:List Nd}(h:xfault v=0):v.length≤200∧pastE (v.length+1) v=some []:=by
 by_cases h1:200<v.length
 · rw[xfault_long h1]at h;cases h
 · cases h2:isEx v
   · rw[xfault_bad h1 h2]at h;cases h
   · exact⟨by omega,(isEx_iff v).1 h2⟩
theorem partsE_lift {pv pw:List Nd→Option (List Nd)}{φ :List Nd→List Nd}(h:∀v r,pv v=some r→pw (φ v)=some (φ r)):
 ∀(k:Nat) (v r:List Nd),partsE pv k v=some r→partsE pw k (φ v)=some (φ r)
 | 0,v,r,e=>by simp only[partsE,Option.some.injEq]at e ⊢; rw[e]
 | k+1,v,r,e=>by
   simp only[partsE]at e ⊢
   cases e2:pv v with
   | none=>rw[e2]at e;cases e
   | some rest=>
     simp only[e2]at e
     rw[h _ _ e2]
     exact partsE_lift h k rest r e
theorem recLoop_lift {pv pw:List Nd→Option (List Nd)}{φ :List Nd→List Nd}(hc:∀x r,x.op=7→ φ (x::r)=x:: φ r)(h:∀v r,pv v=some r→pw (φ v)=some (φ r)):
 ∀(k:Nat) (last:ByteArray) (v r:List Nd),recLoop pv k last v=some r→recLoop pw k last (φ v)=some (φ r)
 | 0,last,v,r,e=>by simp only[recLoop,Option.some.injEq]at e ⊢; rw[e]
 | k+1,last,[],r,e=>by simp[recLoop]at e
 | k+1,last,x::v,r,e=>by
   simp only[recLoop]at e
   split at e
   · rename_i hx
     rw[hc x v hx.1]
     simp only[recLoop]
     rw[if_pos hx]
     cases e2:pv v with
     | none=>rw[e2]at e;cases e
     | some rest=>
       simp only[e2]at e
       rw[h _ _ e2]
       exact recLoop_lift hc h k _ rest r e
   · cases e
theorem pastE_more:∀(f:Nat) (v r:List Nd),pastE f v=some r→pastE (f+1) v=some r
 | 0,v,r,h=>by simp[pastE]at h
 | f+1,v,r,h=>by
   obtain⟨g,x,m,e,rfl,h7,hx,hr⟩:=pastE_cons h
   obtain rfl:f=g:=by omega
   rcases hr with⟨h6,hr⟩ | ⟨h6,hr⟩
   · rw[pastE_rec h7 hx h6]
     exact recLoop_lift (φ :=id) (fun _ _ _=>rfl) (pastE_more f) _ _ _ _ hr
   · rw[pastE_parts h7 hx h6]
     exact partsE_lift (φ :=id) (pastE_more f) _ _ _ hr
theorem pastE_mono {f g:Nat}{v r:List Nd}(h:pastE f v=some r)(hg:f≤g):pastE g v=some r:=by
 obtain⟨d,rfl⟩:∃d,g=f+d:=⟨g-f,by omega⟩
 clear hg
 induction d with
 | zero=>exact h
 | succ d ih=>exact pastE_more _ _ _ ih
theorem pastE_any {f g:Nat}{v r:List Nd}(h:pastE f v=some r)(hg:v.length<g):pastE g v=some r:=by
 by_cases hf:f≤g
 · exact pastE_mono h hf
 · rw[←pastE_fuel f g v (by omega) hg];exact h
theorem pastE_append (z:List Nd):∀(f:Nat) (v r:List Nd),pastE f v=some r→pastE f (v++z)=some (r++z)
 | 0,v,r,h=>by simp[pastE]at h
 | f+1,v,r,h=>by
   obtain⟨g,x,m,e,rfl,h7,hx,hr⟩:=pastE_cons h
   obtain rfl:f=g:=by omega
   rw[List.cons_append]
   rcases hr with⟨h6,hr⟩ | ⟨h6,hr⟩
   · rw[pastE_rec h7 hx h6]
     exact recLoop_lift (φ :=(· ++z)) (fun _ _ _=>rfl) (pastE_append z f) _ _ _ _ hr
   · rw[pastE_parts h7 hx h6]
     exact partsE_lift (φ :=(· ++z)) (pastE_append z f) _ _ _ hr
def isV (s:ByteArray)(x:Nd):Bool:=x.op == 8 && x.s.data.toList == s.data.toList
theorem isV_iff (s:ByteArray)(x:Nd):isV s x=true↔x.op=8∧x.s=s:=by
 unfold isV
 rw[Bool.and_eq_true,beq_iff_eq,beq_iff_eq]
 exact⟨fun h=>⟨h.1,bytes_inj h.2⟩,fun h=>⟨h.1,by rw[h.2]⟩⟩
def rep (s:ByteArray)(V:List Nd)(x:Nd):List Nd:=if isV s x then V else[x]
def putE (s:ByteArray)(V:List Nd)(e:List Nd):List Nd:=e.flatMap (rep s V)
def cntV (s:ByteArray)(e:List Nd):Nat:=e.countP (isV s)
theorem putE_nil (s:ByteArray)(V:List Nd):putE s V []=[]:=rfl
theorem putE_cons (s:ByteArray)(V:List Nd)(x:Nd)(e:List Nd):putE s V (x::e)=rep s V x++putE s V e:=by unfold putE;rw[List.flatMap_cons]
theorem putE_append (s:ByteArray)(V a b:List Nd):putE s V (a++b)=putE s V a++putE s V b:=by unfold putE;rw[List.flatMap_append]
theorem rep_no {s:ByteArray}{V:List Nd}{x:Nd}(h:isV s x=false):rep s V x=[x]:=by unfold rep;rw[h];rfl
theorem rep_yes {s:ByteArray}{V:List Nd}{x:Nd}(h:isV s x=true):rep s V x=V:=by unfold rep;rw[h];rfl
theorem isV_op {s:ByteArray}{x:Nd}(h:x.op≠8):isV s x=false:=by
 cases e:isV s x with
 | false=>rfl
 | true=>exact absurd ((isV_iff s x).1 e).1 h
theorem putE_length (s:ByteArray)(V e:List Nd):(putE s V e).length+cntV s e=e.length+cntV s e*V.length:=by
 induction e with
 | nil=>simp[putE,cntV]
 | cons x e ih=>
   rw[putE_cons,List.length_append]
   unfold cntV at *
   rw[List.countP_cons,List.length_cons]
   cases h:isV s x
   · rw[rep_no h];simp;omega
   · rw[rep_yes h];simp[Nat.add_mul];omega
theorem putE_none {s:ByteArray}{V e:List Nd}(h:∀x∈e,isV s x=false):putE s V e=e:=by
 induction e with
 | nil=>rfl
 | cons x e ih=>
   rw[putE_cons,rep_no (h x (by simp)),ih (fun y hy=>h y (by simp[hy]))];rfl
theorem putE_le (s:ByteArray)(V:List Nd){a b:List Nd}:(putE s V a).length≤(putE s V (a++b)).length:=by
 rw[putE_append,List.length_append];omega
theorem pastE_put (s:ByteArray){V:List Nd}{F:Nat}(hV:pastE F V=some []):∀(f:Nat) (v r:List Nd),pastE f v=some r→pastE (f+F) (putE s V v)=some (putE s V r)
 | 0,v,r,h=>by simp[pastE]at h
 | f+1,v,r,h=>by
   obtain⟨g,x,m,e,rfl,h7,hx,hr⟩:=pastE_cons h
   obtain rfl:f=g:=by omega
   rw[putE_cons]
   cases hs:isV s x with
   | true=>
     have h8:=((isV_iff s x).1 hs).1
     rw[rep_yes hs]
     rcases hr with⟨h6,hr⟩ | ⟨h6,hr⟩
     · omega
     · have:(prt x).toNat=0:=by unfold prt;rw[if_neg (by omega),if_pos (by omega)];rfl
       rw[this]at hr
       simp only[partsE,Option.some.injEq]at hr
       subst hr
       exact pastE_mono (pastE_append (putE s V m) F V [] hV) (by omega)
   | false=>
     rw[rep_no hs,show f+1+F=(f+F)+1 by omega]
     rcases hr with⟨h6,hr⟩ | ⟨h6,hr⟩
     · show pastE (f+F+1) (x::putE s V m)=_
       rw[pastE_rec h7 hx h6]
       exact recLoop_lift (fun y r h=>by rw[putE_cons,rep_no (isV_op (by omega))];rfl) (pastE_put s hV f) _ _ _ _ hr
     · show pastE (f+F+1) (x::putE s V m)=_
       rw[pastE_parts h7 hx h6]
       exact partsE_lift (pastE_put s hV f) _ _ _ hr
theorem put_isEx {s:ByteArray}{e V:List Nd}(he:xfault e=0)(hV:xfault V=0)(hl:(putE s V e).length≤200):xfault (putE s V e)=0:=by
 have h1:=(xfault_zero he).2
 have h2:=(xfault_zero hV).2
 have h3:=pastE_put s h2 _ _ _ h1
 exact xfault_ok (by omega) ((isEx_iff _).2 (pastE_any h3 (Nat.lt_succ_self _)))
theorem partsE_all {pv:List Nd→Option (List Nd)}{q:Nd→Prop}(h:∀v r,pv v=some r→∃a,v=a++r∧∀x∈a,q x):
 ∀(k:Nat) (v r:List Nd),partsE pv k v=some r→∃a,v=a++r∧∀x∈a,q x
 | 0,v,r,e=>by simp only[partsE,Option.some.injEq]at e;subst e;exact⟨[],rfl,fun x hx=>by cases hx⟩
 | k+1,v,r,e=>by
   simp only[partsE]at e
   cases e2:pv v with
   | none=>rw[e2]at e;cases e
   | some rest=>
     simp only[e2]at e
     obtain⟨a,rfl,ha⟩:=h _ _ e2
     obtain⟨b,rfl,hb⟩:=partsE_all h k rest r e
     exact⟨a++b,by simp,fun x hx=>(List.mem_append.1 hx).elim (ha x) (hb x)⟩
theorem recLoop_all {pv:List Nd→Option (List Nd)}{q:Nd→Prop}(h7:∀x,x.op=7→ndOk x=true→q x)(h:∀v r,pv v=some r→∃a,v=a++r∧∀x∈a,q x):
 ∀(k:Nat) (last:ByteArray) (v r:List Nd),recLoop pv k last v=some r→∃a,v=a++r∧∀x∈a,q x
 | 0,last,v,r,e=>by simp only[recLoop,Option.some.injEq]at e;subst e;exact⟨[],rfl,fun x hx=>by cases hx⟩
 | k+1,last,[],r,e=>by simp[recLoop]at e
 | k+1,last,y::v,r,e=>by
   simp only[recLoop]at e
   split at e
   · rename_i hy
     cases e2:pv v with
     | none=>rw[e2]at e;cases e
     | some rest=>
       simp only[e2]at e
       obtain⟨a,rfl,ha⟩:=h _ _ e2
       obtain⟨b,rfl,hb⟩:=recLoop_all h7 h k _ rest r e
       refine⟨y::(a++b),by simp,fun x hx=>?_⟩
       rcases List.mem_cons.1 hx with rfl | hx
       · exact h7 _ hy.1 hy.2.1
       · exact(List.mem_append.1 hx).elim (ha x) (hb x)
   · cases e
theorem exOk_field {x:Nd}(h:x.op=7)(h2:ndOk x=true):exOk x=true:=by unfold exOk;rw[if_pos (by omega)];exact h2
theorem pastE_all:∀(f:Nat) (v r:List Nd),pastE f v=some r→∃a,v=a++r∧∀x∈a,exOk x=true
 | 0,v,r,h=>by simp[pastE]at h
 | f+1,v,r,h=>by
   obtain⟨g,x,m,e,rfl,h7,hx,hr⟩:=pastE_cons h
   obtain rfl:f=g:=by omega
   have:∃a,m=a++r∧∀x∈a,exOk x=true:=by
    rcases hr with⟨h6,hr⟩ | ⟨h6,hr⟩
    · exact recLoop_all (fun x=>exOk_field) (pastE_all f) _ _ _ _ hr
    · exact partsE_all (pastE_all f) _ _ _ hr
   obtain⟨a,rfl,ha⟩:=this
   exact⟨x::a,rfl,fun y hy=>by
    rcases List.mem_cons.1 hy with rfl | hy
    · exact hx
    · exact ha y hy⟩
theorem xfault_all {v:List Nd}(h:xfault v=0):∀x∈v,exOk x=true:=by
 obtain⟨a,e,ha⟩:=pastE_all _ _ _ (xfault_zero h).2
 rw[List.append_nil]at e
 subst e
 exact ha
theorem var_ne {x:Nd}(h:exOk x=true)(h8:x.op=8):x.s.data.toList≠[]:=by
 intro e
 unfold exOk at h
 rw[if_neg (by omega)]at h
 simp[h8,prt,e,varOk,nfault,nm,pre]at h
theorem tail_of_tails {u r v:List Nd}(h1:IsTail u v)(h2:IsTail r v)(h:u.length≤r.length):IsTail u r:=by
 obtain⟨a,rfl⟩:=h1
 obtain⟨b,e⟩:=h2
 have:=List.suffix_of_suffix_length_le (l₃ :=a++u) ⟨a,rfl⟩ ⟨b,e.symm⟩ h
 obtain⟨c,hc⟩:=this
 exact⟨c,hc.symm⟩
theorem partsE_at {pv:List Nd→Option (List Nd)}{q:List Nd→Prop}(hs:∀v r,pv v=some r→IsTail r v)(h:∀v r,pv v=some r→∀u,IsTail u v→r.length<u.length→q u):
 ∀(k:Nat) (v r:List Nd),partsE pv k v=some r→∀u,IsTail u v→r.length<u.length→q u
 | 0,v,r,e,u,hu,hl=>by
   simp only[partsE,Option.some.injEq]at e
   subst e
   have:=hu.length
   omega
 | k+1,v,r,e,u,hu,hl=>by
   simp only[partsE]at e
   cases e2:pv v with
   | none=>rw[e2]at e;cases e
   | some rest=>
     simp only[e2]at e
     by_cases hlt:rest.length<u.length
     · exact h _ _ e2 u hu hlt
     · exact partsE_at hs h k rest r e u (tail_of_tails hu (hs _ _ e2) (by omega)) hl
theorem recLoop_at {pv:List Nd→Option (List Nd)}{q:List Nd→Prop}(hq:∀x r,x.op=7→q (x::r))(hs:∀v r,pv v=some r→IsTail r v)(h:∀v r,pv v=some r→∀u,IsTail u v→r.length<u.length→q u):
 ∀(k:Nat) (last:ByteArray) (v r:List Nd),recLoop pv k last v=some r→∀u,IsTail u v→r.length<u.length→q u
 | 0,last,v,r,e,u,hu,hl=>by
   simp only[recLoop,Option.some.injEq]at e
   subst e
   have:=hu.length
   omega
 | k+1,last,[],r,e,u,hu,hl=>by simp[recLoop]at e
 | k+1,last,y::v,r,e,u,hu,hl=>by
   simp only[recLoop]at e
   split at e
   · rename_i hy
     cases e2:pv v with
     | none=>rw[e2]at e;cases e
     | some rest=>
       simp only[e2]at e
       by_cases hul:u.length=v.length+1
       · obtain⟨a,ha⟩:=hu
         have:a=[]:=by
          have hh:=congrArg List.length ha
          rw[List.length_append,List.length_cons]at hh
          exact List.eq_nil_of_length_eq_zero (by omega)
         subst this
         rw[List.nil_append]at ha
         subst ha
         exact hq y v hy.1
       · have hu2:IsTail u v:=tail_of_tails hu ⟨[y],rfl⟩ (by have:=hu.length;simp at this;omega)
         by_cases hlt:rest.length<u.length
         · exact h _ _ e2 u hu2 hlt
         · exact recLoop_at hq hs h k _ rest r e u (tail_of_tails hu2 (hs _ _ e2) (by omega)) hl
   · cases e
def begins (u:List Nd):Prop:=(∃x r,u=x::r∧x.op=7)∨∃f r,pastE f u=some r
theorem pastE_at:∀(f:Nat) (v r:List Nd),pastE f v=some r→∀u,IsTail u v→r.length<u.length→begins u
 | 0,v,r,h,u,hu,hl=>by simp[pastE]at h
 | f+1,v,r,h,u,hu,hl=>by
   have h0:=h
   obtain⟨g,x,m,e,rfl,h7,hx,hr⟩:=pastE_cons h
   obtain rfl:f=g:=by omega
   by_cases hul:u.length=m.length+1
   · obtain⟨a,ha⟩:=hu
     have:a=[]:=by
      have hh:=congrArg List.length ha
      rw[List.length_append,List.length_cons]at hh
      exact List.eq_nil_of_length_eq_zero (by omega)
     subst this
     rw[List.nil_append]at ha
     subst ha
     exact .inr ⟨_,_,h0⟩
   · have hu2:IsTail u m:=tail_of_tails hu ⟨[x],rfl⟩ (by have:=hu.length;simp at this;omega)
     have hs:∀v r,pastE f v=some r→IsTail r v:=fun v r e=>(pastE_shorter e).2
     rcases hr with⟨h6,hr⟩ | ⟨h6,hr⟩
     · exact recLoop_at (fun x r h=>.inl ⟨x,r,rfl,h⟩) hs (pastE_at f) _ _ _ _ hr u hu2 hl
     · exact partsE_at hs (pastE_at f) _ _ _ hr u hu2 hl
theorem ex_at {v:List Nd}(h:xfault v=0){k:Nat}(hk:k<v.length)(h7:v[k].op≠7):∃r,pastE (v.length+1) (v.drop k)=some r:=by
 have hp:=(xfault_zero h).2
 have:=pastE_at _ _ _ hp (v.drop k) ⟨v.take k,(List.take_append_drop k v).symm⟩ (by simp;omega)
 rcases this with⟨x,r,e,hx⟩ | ⟨f,r,e⟩
 · rw[List.drop_eq_getElem_cons hk]at e
   injection e with e1 e2
   rw[e1]at h7
   exact absurd hx h7
 · exact⟨r,pastE_any e (by simp;omega)⟩
theorem setLoop_parts {pv pw:List Nd→Option (List Nd)}(h:∀v r,pv v=some r→pw v=some r):∀(k:Nat) (last:Option (List Nd)) (v r:List Nd),setLoop pv k last v=some r→partsE pw k v=some r
 | 0,last,v,r,e=>by simp only[setLoop,Option.some.injEq]at e;simp only[partsE];rw[e]
 | k+1,last,v,r,e=>by
   simp only[setLoop]at e
   simp only[partsE]
   cases e2:pv v with
   | none=>rw[e2]at e;cases e
   | some rest=>
     simp only[e2]at e
     rw[h _ _ e2]
     split at e
     · exact setLoop_parts h k _ rest r e
     · cases e
theorem ndOk_op {x:Nd}(h:ndOk x=true):1≤x.op∧x.op≤7:=by
 unfold ndOk at h
 by_cases h1:x.op=1; · omega
 by_cases h2:x.op=2; · omega
 by_cases h3:x.op=3; · omega
 by_cases h4:x.op=4; · omega
 by_cases h5:x.op=5; · omega
 by_cases h6:x.op=6; · omega
 by_cases h7:x.op=7; · omega
 simp[h1,h2,h3,h4,h5,h6,h7]at h
theorem exOk_value {x:Nd}(h:ndOk x=true):exOk x=true:=by unfold exOk;rw[if_pos (ndOk_op h)];exact h
theorem pastV_pastE:∀(f:Nat) (v r:List Nd),pastV f v=some r→pastE f v=some r
 | 0,v,r,h=>by simp[pastV]at h
 | f+1,[],r,h=>by simp[pastV]at h
 | f+1,x::m,r,h=>by
   simp only[pastV]at h
   split at h
   · rename_i hx
     have hop:=ndOk_op hx.2
     by_cases h5:x.op=5
     · rw[if_pos h5]at h
       rw[pastE_parts hx.1 (exOk_value hx.2) (by omega)]
       have:prt x=x.n:=by unfold prt;rw[if_pos (.inl h5)]
       rw[this]
       exact setLoop_parts (pastV_pastE f) _ _ _ _ h
     · rw[if_neg h5]at h
       by_cases h6:x.op=6
       · rw[if_pos h6]at h
         rw[pastE_rec hx.1 (exOk_value hx.2) h6]
         exact recLoop_lift (φ :=id) (fun _ _ _=>rfl) (pastV_pastE f) _ _ _ _ h
       · rw[if_neg h6]at h
         rw[pastE_parts hx.1 (exOk_value hx.2) h6]
         have:(prt x).toNat=0:=by unfold prt;rw[if_neg (by omega),if_pos (by omega)];rfl
         rw[this]
         exact h
   · cases h
theorem setLoop_all {pv:List Nd→Option (List Nd)}{q:Nd→Prop}(h:∀v r,pv v=some r→∃a,v=a++r∧∀x∈a,q x):
 ∀(k:Nat) (last:Option (List Nd)) (v r:List Nd),setLoop pv k last v=some r→∃a,v=a++r∧∀x∈a,q x
 | 0,last,v,r,e=>by simp only[setLoop,Option.some.injEq]at e;subst e;exact⟨[],rfl,fun x hx=>by cases hx⟩
 | k+1,last,v,r,e=>by
   simp only[setLoop]at e
   cases e2:pv v with
   | none=>rw[e2]at e;cases e
   | some rest=>
     simp only[e2]at e
     split at e
     · obtain⟨a,e3,ha⟩:=h _ _ e2
       obtain⟨b,e4,hb⟩:=setLoop_all h k _ rest r e
       refine⟨a++b,by rw[e3,e4];simp,fun x hx=>(List.mem_append.1 hx).elim (ha x) (hb x)⟩
     · cases e
theorem pastV_all:∀(f:Nat) (v r:List Nd),pastV f v=some r→∃a,v=a++r∧∀x∈a,ndOk x=true
 | 0,v,r,h=>by simp[pastV]at h
 | f+1,[],r,h=>by simp[pastV]at h
 | f+1,x::m,r,h=>by
   simp only[pastV]at h
   split at h
   · rename_i hx
     have:∃a,m=a++r∧∀x∈a,ndOk x=true:=by
      split at h
      · exact setLoop_all (pastV_all f) _ _ _ _ h
      · split at h
        · exact recLoop_all (fun x _ h=>h) (pastV_all f) _ _ _ _ h
        · simp only[Option.some.injEq]at h;subst h;exact⟨[],rfl,fun x hx=>by cases hx⟩
     obtain⟨a,rfl,ha⟩:=this
     exact⟨x::a,rfl,fun y hy=>by
      rcases List.mem_cons.1 hy with rfl | hy
      · exact hx.2
      · exact ha y hy⟩
   · cases h
theorem vfault_zero {v:List Nd}(h:vfault v=0):v.length≤200∧pastV (v.length+1) v=some []:=by
 unfold vfault at h
 split at h
 · cases h
 · split at h
   · rename_i h1 h2
     unfold isVal at h2
     refine⟨by omega,?_⟩
     cases e:pastV (v.length+1) v with
     | none=>rw[e]at h2;cases h2
     | some r=>rw[e]at h2;cases r with
       | nil=>rfl
       | cons y r=>cases h2
   · cases h
theorem value_ex {v:List Nd}(h:vfault v=0):xfault v=0:=by
 obtain⟨h1,h2⟩:=vfault_zero h
 exact xfault_ok (by omega) ((isEx_iff v).2 (pastV_pastE _ _ _ h2))
theorem value_novar {v:List Nd}(h:vfault v=0):∀x∈v,x.op≠8:=by
 obtain⟨a,e,ha⟩:=pastV_all _ _ _ (vfault_zero h).2
 rw[List.append_nil]at e
 subst e
 intro x hx
 have:=ndOk_op (ha x hx)
 omega
theorem asc_unique {α :Type}{c: α → α →Int}(hc:IsCmp c):∀(l m:List α),l.Pairwise (fun x y=>c x y<0)→m.Pairwise (fun x y=>c x y<0)→(∀x,x∈l↔x∈m)→l=m
 | [],[],_,_,_=>rfl
 | [],y::m,_,_,h=>by have:=(h y).2 (by simp);cases this
 | x::l,[],_,_,h=>by have:=(h x).1 (by simp);cases this
 | x::l,y::m,hl,hm,h=>by
   obtain⟨l1,l2⟩:=List.pairwise_cons.1 hl
   obtain⟨m1,m2⟩:=List.pairwise_cons.1 hm
   have irr:∀z,¬c z z<0:=fun z hz=>by rw[hc.self]at hz;omega
   have asym:∀a b,c a b<0→¬c b a<0:=fun a b h1 h2=>by rw[hc.neg]at h1;omega
   have exy:x=y:=by
    rcases List.mem_cons.1 ((h x).1 (by simp))with e | hx
    · exact e
    · rcases List.mem_cons.1 ((h y).2 (by simp))with e | hy
      · exact e.symm
      · exact absurd (m1 x hx) (asym _ _ (l1 y hy))
   subst exy
   rw[asc_unique hc l m l2 m2 (fun z=>⟨fun hz=>by
    rcases List.mem_cons.1 ((h z).1 (by simp[hz]))with e | hz'
    · subst e;exact absurd (l1 _ hz) (irr _)
    · exact hz',fun hz=>by
    rcases List.mem_cons.1 ((h z).2 (by simp[hz]))with e | hz'
    · subst e;exact absurd (m1 _ hz) (irr _)
    · exact hz'⟩)]
def vars (e:List Nd):List ByteArray:=(e.filter (fun x=>x.op == 8)).map Nd.s
theorem mem_vars {y:ByteArray}{e:List Nd}:y∈vars e↔∃x∈e,x.op=8∧x.s=y:=by
 unfold vars
 simp only[List.mem_map,List.mem_filter,beq_iff_eq]
 exact⟨fun⟨x,⟨h1,h2⟩,h3⟩=>⟨x,h1,h2,h3⟩,fun⟨x,h1,h2,h3⟩=>⟨x,⟨h1,h2⟩,h3⟩⟩
theorem vars_cons_not {x:Nd}{e:List Nd}(h:x.op≠8):vars (x::e)=vars e:=by unfold vars;rw[List.filter_cons_of_neg (by simpa using h)]
theorem vars_cons_var {x:Nd}{e:List Nd}(h:x.op=8):vars (x::e)=x.s::vars e:=by unfold vars;rw[List.filter_cons_of_pos (by simpa using h)];rfl
theorem vars_append (a b:List Nd):vars (a++b)=vars a++vars b:=by unfold vars;rw[List.filter_append,List.map_append]
theorem vars_length (e:List Nd):(vars e).length≤e.length:=by unfold vars;rw[List.length_map];exact List.length_filter_le _ _
theorem not_vars {s:ByteArray}{e:List Nd}:s∉vars e↔∀x∈e,isV s x=false:=by
 constructor
 · intro h x hx
   cases e2:isV s x with
   | false=>rfl
   | true=>exact absurd (mem_vars.2 ⟨x,hx,(isV_iff s x).1 e2⟩) h
 · intro h hm
   obtain⟨x,hx,h1⟩:=mem_vars.1 hm
   have:=h x hx
   rw[(isV_iff s x).2 h1]at this
   cases this
def Rises (l:List ByteArray):Prop:=l.Pairwise fun x y=>cmpB x y<0
def insB (y:ByteArray):List ByteArray→List ByteArray
 | []=>[y]
 | x::l=>if cmpB y x=0 then x::l else if cmpB y x<0 then y::x::l else x::insB y l
theorem mem_insB (y z:ByteArray):∀l,z∈insB y l↔z=y∨z∈l
 | []=>by simp[insB]
 | x::l=>by
   unfold insB
   split
   · rename_i h
     obtain rfl:=(cmpB_is.zero y x).1 h
     simp
   · split
     · simp
     · simp only[List.mem_cons,mem_insB y z l]
       exact⟨fun h=>by rcases h with h | h | h<;>simp[h],fun h=>by rcases h with h | h | h<;>simp[h]⟩
theorem rises_insB (y:ByteArray):∀l,Rises l→Rises (insB y l)
 | [],_=>by unfold insB Rises;simp
 | x::l,h=>by
   obtain⟨h1,h2⟩:=List.pairwise_cons.1 h
   unfold insB
   split
   · exact h
   · split
     · rename_i hlt
       exact List.pairwise_cons.2 ⟨fun z hz=>by
        rcases List.mem_cons.1 hz with rfl | hz
        · exact hlt
        · exact cmpB_is.lt_le hlt (by have:=h1 z hz;omega),h⟩
     · rename_i h0 hlt
       have hxy:cmpB x y<0:=by have:=cmpB_is.neg x y;omega
       refine List.pairwise_cons.2 ⟨fun z hz=>?_,rises_insB y l h2⟩
       rcases(mem_insB y z l).1 hz with rfl | hz
       · exact hxy
       · exact h1 z hz
def nms (e:List Nd):List ByteArray:=(vars e).foldr insB []
theorem foldr_mem (z:ByteArray):∀l:List ByteArray,z∈l.foldr insB []↔z∈l
 | []=>by simp
 | y::l=>by rw[List.foldr_cons,mem_insB,foldr_mem z l,List.mem_cons]
theorem foldr_rises:∀l:List ByteArray,Rises (l.foldr insB [])
 | []=>List.Pairwise.nil
 | y::l=>by rw[List.foldr_cons];exact rises_insB y _ (foldr_rises l)
theorem mem_nms {z:ByteArray}{e:List Nd}:z∈nms e↔z∈vars e:=foldr_mem z _
theorem nms_rises (e:List Nd):Rises (nms e):=foldr_rises _
theorem nms_unique {l:List ByteArray}{e:List Nd}(h:Rises l)(hm:∀z,z∈l↔z∈vars e):l=nms e:=
 asc_unique cmpB_is l (nms e) h (nms_rises e) (fun z=>(hm z).trans mem_nms.symm)
theorem insB_length (y:ByteArray):∀l,(insB y l).length≤l.length+1
 | []=>by simp[insB]
 | x::l=>by
   unfold insB
   split
   · simp
   · split
     · simp
     · have:=insB_length y l
       simp;omega
theorem foldr_length:∀l:List ByteArray,(l.foldr insB []).length≤l.length
 | []=>Nat.le_refl _
 | y::l=>by
   rw[List.foldr_cons,List.length_cons]
   have h1:=insB_length y (l.foldr insB [])
   have h2:=foldr_length l
   omega
theorem nms_length (e:List Nd):(nms e).length≤e.length:=Nat.le_trans (foldr_length _) (vars_length e)
theorem nms_nil {e:List Nd}(h:∀x∈e,x.op≠8):nms e=[]:=by
 have:vars e=[]:=List.eq_nil_iff_forall_not_mem.2 fun y hy=>by
  obtain⟨x,hx,h8,_⟩:=mem_vars.1 hy
  exact h x hx h8
 unfold nms;rw[this];rfl
theorem mem_put {s y:ByteArray}{V e:List Nd}:y∈vars (putE s V e)↔(y∈vars e∧y≠s)∨(s∈vars e∧y∈vars V):=by
 induction e with
 | nil=>simp[putE,vars]
 | cons x e ih=>
   rw[putE_cons,vars_append,List.mem_append,ih]
   by_cases h8:x.op=8
   · rw[vars_cons_var h8]
     cases h:isV s x
     · have hne:x.s≠s:=fun e2=>by rw[(isV_iff s x).2 ⟨h8,e2⟩]at h;cases h
       rw[rep_no h,vars_cons_var h8,show vars []=[] from rfl]
       simp only[List.mem_cons,List.not_mem_nil,or_false]
       constructor
       · rintro(rfl | ⟨h1,h2⟩ | ⟨h1,h2⟩)
         · exact .inl ⟨.inl rfl,hne⟩
         · exact .inl ⟨.inr h1,h2⟩
         · exact .inr ⟨.inr h1,h2⟩
       · rintro(⟨rfl | h1,h2⟩ | ⟨h1,h2⟩)
         · exact .inl rfl
         · exact .inr (.inl ⟨h1,h2⟩)
         · rcases h1 with h1 | h1
           · exact absurd h1.symm hne
           · exact .inr (.inr ⟨h1,h2⟩)
     · have he:x.s=s:=((isV_iff s x).1 h).2
       rw[rep_yes h]
       simp only[List.mem_cons]
       constructor
       · rintro(h1 | ⟨h1,h2⟩ | ⟨h1,h2⟩)
         · exact .inr ⟨.inl he.symm,h1⟩
         · exact .inl ⟨.inr h1,h2⟩
         · exact .inr ⟨.inr h1,h2⟩
       · rintro(⟨h1 | h1,h2⟩ | ⟨h1,h2⟩)
         · exact absurd (h1.trans he) h2
         · exact .inr (.inl ⟨h1,h2⟩)
         · exact .inl h2
   · rw[vars_cons_not h8,rep_no (isV_op h8),vars_cons_not h8,show vars []=[] from rfl]
     simp
theorem putE_twice {s t:ByteArray}{V W:List Nd}(hst:s≠t)(hs:s∉vars W)(e:List Nd):putE s (putE t W V) (putE t W e)=putE t W (putE s V e):=by
 induction e with
 | nil=>rfl
 | cons x e ih=>
   rw[putE_cons,putE_append,ih,putE_cons s V x e,putE_append]
   congr 1
   cases h1:isV s x with
   | true=>
     have h2:isV t x=false:=by
      cases h:isV t x with
      | false=>rfl
      | true=>exact absurd (((isV_iff s x).1 h1).2.symm.trans ((isV_iff t x).1 h).2) hst
     rw[rep_no h2,rep_yes h1,putE_cons,rep_yes h1,putE_nil,List.append_nil]
   | false=>
     rw[rep_no h1]
     cases h2:isV t x with
     | true=>rw[rep_yes h2,putE_cons,rep_yes h2,putE_nil,List.append_nil,putE_none (not_vars.1 hs)]
     | false=>rw[rep_no h2,putE_cons,rep_no h1,putE_nil,putE_cons,rep_no h2,putE_nil]
theorem ex_two {x:Nd}{r:List Nd}(h:xfault (x::r)=0)(h5:x.op≠5)(h6:x.op≠6)(h2:prt x=2):∃m,pastE ((x::r).length+1) r=some m∧pastE ((x::r).length+1) m=some []∧m.length<r.length∧IsTail m r:=by
 obtain⟨hl,hp⟩:=xfault_zero h
 obtain⟨g,y,m,e1,e2,h7,hx,hr⟩:=pastE_cons hp
 injection e2 with e2 e3
 subst e2 e3
 rcases hr with⟨hr,_⟩ | ⟨_,hr⟩
 · exact absurd hr h6
 · rw[h2]at hr
   show ∃m,_
   simp only[show(2:Int).toNat=2 from rfl,partsE]at hr
   cases e4:pastE g r with
   | none=>rw[e4]at hr;cases hr
   | some m1=>
     simp only[e4]at hr
     cases e5:pastE g m1 with
     | none=>rw[e5]at hr;cases hr
     | some m2=>
       simp only[e5]at hr
       cases hr
       exact⟨m1,pastE_mono e4 (by omega),pastE_mono e5 (by omega),(pastE_shorter e4).1,(pastE_shorter e4).2⟩
def Strict (l:List (List Nd)):Prop:=l.Pairwise fun a b=>lsC a b<0
theorem lsC_self (a:List Nd):lsC a a=0:=lsC_is.self a
theorem Strict.ext:∀ {l m:List (List Nd)},Strict l→Strict m→(∀x,x∈l↔x∈m)→l=m
 | [],[],_,_,_=>rfl
 | [],b::m,_,_,h=>by have:=(h b).2 (by simp);cases this
 | a::l,[],_,_,h=>by have:=(h a).1 (by simp);cases this
 | a::l,b::m,h1,h2,h=>by
   have h1':=List.pairwise_cons.1 h1
   have h2':=List.pairwise_cons.1 h2
   have hab:a=b:=by
    have ha:=(h a).1 (by simp)
    have hb:=(h b).2 (by simp)
    rcases List.mem_cons.1 ha with e | ha
    · exact e
    · rcases List.mem_cons.1 hb with e | hb
      · exact e.symm
      · have k1:=h2'.1 a ha
        have k2:=h1'.1 b hb
        have:=lsC_is.lt_le k1 (by omega:lsC a b≤0)
        rw[lsC_self]at this;omega
   subst hab
   congr 1
   refine Strict.ext h1'.2 h2'.2 (fun x=>?_)
   have hx:=h x
   constructor
   · intro hl
     rcases List.mem_cons.1 (hx.1 (by simp[hl]))with e | hm
     · subst e
       have:=h1'.1 _ hl
       rw[lsC_self]at this;omega
     · exact hm
   · intro hm
     rcases List.mem_cons.1 (hx.2 (by simp[hm]))with e | hl
     · subst e
       have:=h2'.1 _ hm
       rw[lsC_self]at this;omega
     · exact hl
def ins (v:List Nd):List (List Nd)→List (List Nd)
 | []=>[v]
 | u::l=>if lsC v u<0 then v::u::l else if lsC v u=0 then u::l else u::ins v l
def setL (vs:List (List Nd)):List (List Nd):=vs.foldr ins []
theorem mem_ins (v:List Nd):∀(l:List (List Nd)) (x:List Nd),x∈ins v l↔x=v∨x∈l
 | [],x=>by simp[ins]
 | u::l,x=>by
   unfold ins
   split
   · simp
   · split
     · rename_i h
       obtain rfl:=(lsC_is.zero v u).1 h
       simp
     · rw[List.mem_cons,mem_ins v l x,List.mem_cons]
       constructor
       · rintro(h | h | h)
         · exact .inr (.inl h)
         · exact .inl h
         · exact .inr (.inr h)
       · rintro(h | h | h)
         · exact .inr (.inl h)
         · exact .inl h
         · exact .inr (.inr h)
theorem strict_ins (v:List Nd):∀(l:List (List Nd)),Strict l→Strict (ins v l)
 | [],_=>by simp[ins,Strict]
 | u::l,h=>by
   have h':=List.pairwise_cons.1 h
   unfold ins
   split
   · rename_i hv
     refine List.pairwise_cons.2 ⟨fun x hx=>?_,h⟩
     rcases List.mem_cons.1 hx with rfl | hx
     · exact hv
     · exact lsC_is.lt_le hv (by have:=h'.1 x hx;omega)
   · split
     · exact h
     · rename_i h1 h2
       refine List.pairwise_cons.2 ⟨fun x hx=>?_,strict_ins v l h'.2⟩
       rcases(mem_ins v l x).1 hx with rfl | hx
       · have:=lsC_is.neg u x
         have:=lsC_is.range u x
         omega
       · exact h'.1 x hx
theorem mem_setL (vs:List (List Nd))(x:List Nd):x∈setL vs↔x∈vs:=by
 induction vs with
 | nil=>simp[setL]
 | cons v vs ih=>
   show x∈ins v (setL vs)↔_
   rw[mem_ins,ih,List.mem_cons]
theorem strict_setL (vs:List (List Nd)):Strict (setL vs):=by
 induction vs with
 | nil=>exact List.Pairwise.nil
 | cons v vs ih=>exact strict_ins v _ ih
theorem setL_is {vs l:List (List Nd)}(h:Strict l)(hm:∀x,x∈l↔x∈vs):l=setL vs:=
 Strict.ext h (strict_setL vs) (fun x=>(hm x).trans (mem_setL vs x).symm)
def above (last:List Nd)(v:List Nd):Bool:=last.isEmpty || decide (0<lsC v last)
def lessO (v:List Nd)(nx:List Nd):Bool:=nx.isEmpty || decide (lsC v nx<0)
def pick (last:List Nd):List (List Nd)→List Nd→List Nd
 | [],nx=>nx
 | v::vs,nx=>pick last vs (if above last v && lessO v nx then v else nx)
theorem pick_spec (last:List Nd):∀(vs:List (List Nd)) (nx:List Nd),(∀v∈vs,v≠[])→
 (pick last vs nx=nx∧∀v∈vs,above last v=true→nx≠[]∧lsC nx v≤0)∨
 (pick last vs nx∈vs∧above last (pick last vs nx)=true∧(∀v∈vs,above last v=true→lsC (pick last vs nx) v≤0)∧(nx≠[]→lsC (pick last vs nx) nx≤0))
 | [],nx,_=>.inl ⟨rfl,by simp⟩
 | v::vs,nx,hne=>by
   have hv:v≠[]:=hne v (by simp)
   have ih:=pick_spec last vs (if above last v && lessO v nx then v else nx) (fun u hu=>hne u (by simp[hu]))
   simp only[pick]
   cases ha:above last v<;>simp only[ha,Bool.false_and,Bool.true_and,if_false,Bool.false_eq_true]at ih ⊢
   · rcases ih with⟨h1,h2⟩ | ⟨h1,h2,h3,h4⟩
     · refine .inl ⟨h1,fun u hu hau=>?_⟩
       rcases List.mem_cons.1 hu with rfl | hu
       · rw[ha]at hau;cases hau
       · exact h2 u hu hau
     · refine .inr ⟨by simp[h1],h2,fun u hu hau=>?_,h4⟩
       rcases List.mem_cons.1 hu with rfl | hu
       · rw[ha]at hau;cases hau
       · exact h3 u hu hau
   · cases hl:lessO v nx<;>simp only[hl,if_true,if_false,Bool.false_eq_true]at ih ⊢
     · have hl':nx≠[]∧lsC nx v≤0:=by
        unfold lessO at hl
        simp at hl
        have:=lsC_is.neg nx v
        exact⟨hl.1,by omega⟩
       rcases ih with⟨h1,h2⟩ | ⟨h1,h2,h3,h4⟩
       · refine .inl ⟨h1,fun u hu hau=>?_⟩
         rcases List.mem_cons.1 hu with rfl | hu
         · exact hl'
         · exact h2 u hu hau
       · refine .inr ⟨by simp[h1],h2,fun u hu hau=>?_,h4⟩
         rcases List.mem_cons.1 hu with rfl | hu
         · exact lsC_is.trans _ _ _ (h4 hl'.1) hl'.2
         · exact h3 u hu hau
     · have hl':nx≠[]→lsC v nx≤0:=fun h=>by
        unfold lessO at hl
        simp[h]at hl
        omega
       rcases ih with⟨h1,h2⟩ | ⟨h1,h2,h3,h4⟩
       · rw[h1]
         refine .inr ⟨by simp,ha,fun u hu hau=>?_,hl'⟩
         rcases List.mem_cons.1 hu with rfl | hu
         · rw[lsC_self];omega
         · exact(h2 u hu hau).2
       · refine .inr ⟨by simp[h1],h2,fun u hu hau=>?_,fun hn=>lsC_is.trans _ _ _ (h4 hv) (hl' hn)⟩
         rcases List.mem_cons.1 hu with rfl | hu
         · exact h4 hv
         · exact h3 u hu hau
structure Picked (vs:List (List Nd))(done:List (List Nd))(last:List Nd):Prop where
 strict:Strict done
 sub:∀x∈done,x∈vs
 all:∀v∈vs,above last v=true∨v∈done
 ends:(done=[]∧last=[])∨(last∈done∧∀x∈done,lsC x last≤0)
theorem Picked.start (vs:List (List Nd)):Picked vs [] []:=⟨List.Pairwise.nil,by simp,fun v _=>.inl (by simp[above]),.inl ⟨rfl,rfl⟩⟩
theorem Picked.done {vs done:List (List Nd)}{last:List Nd}(h:Picked vs done last)(hne:∀v∈vs,v≠[])(hp:pick last vs []=[]):done=setL vs:=by
 refine setL_is h.strict (fun x=>⟨h.sub x,fun hx=>?_⟩)
 rcases h.all x hx with ha | hd
 · rcases pick_spec last vs [] hne with⟨_,h2⟩ | ⟨h1,_⟩
   · exact absurd rfl (h2 x hx ha).1
   · rw[hp]at h1;exact absurd rfl (hne _ h1)
 · exact hd
theorem Picked.next {vs done:List (List Nd)}{last:List Nd}(h:Picked vs done last)(hne:∀v∈vs,v≠[])(hp:pick last vs []≠[]):Picked vs (done++[pick last vs []]) (pick last vs []):=by
 rcases pick_spec last vs [] hne with⟨h1,_⟩ | ⟨h1,h2,h3,_⟩
 · exact absurd h1 hp
 · generalize pick last vs []=n at *
   have hab:∀x∈done,lsC x n<0:=by
    intro x hx
    rcases h.ends with⟨e,_⟩ | ⟨hl,hle⟩
    · rw[e]at hx;cases hx
    · have hlast:last≠[]:=hne _ (h.sub _ hl)
      unfold above at h2
      simp[hlast]at h2
      have:=lsC_is.neg n last
      exact lsC_is.le_lt (hle x hx) (by omega)
   refine⟨List.pairwise_append.2 ⟨h.strict,by simp,fun a ha b hb=>by simp at hb;subst hb;exact hab a ha⟩,fun x hx=>?_,fun v hv=>?_,.inr ⟨by simp,fun x hx=>?_⟩⟩
   · rcases List.mem_append.1 hx with hx | hx
     · exact h.sub x hx
     · simp at hx;subst hx;exact h1
   · rcases h.all v hv with ha | hd
     · have h4:=h3 v hv ha
       by_cases hz:lsC n v=0
       · obtain rfl:=(lsC_is.zero n v).1 hz
         exact .inr (by simp)
       · left
         unfold above
         have:=lsC_is.neg v n
         simp;right;omega
     · exact .inr (by simp[hd])
   · rcases List.mem_append.1 hx with hx | hx
     · have:=hab x hx;omega
     · simp at hx;subst hx;rw[lsC_self];omega
def bel (x:Nd):Int:=if x.op=5∨x.op=6 then x.n else if x.op=7 then 1 else 0
def reach:List Nd→Int→Option Int
 | [],m=>some m
 | x::a,m=>if 0<m then reach a (m+(bel x-1))else none
theorem reach_append (a b:List Nd)(m:Int):reach (a++b) m=(reach a m).bind (reach b):=by
 induction a generalizing m with
 | nil=>rfl
 | cons x a ih=>
   simp only[List.cons_append,reach]
   split
   · exact ih _
   · rfl
structure Off (a:List Nd)(d:Int):Prop where
 run:∀m:Int,d≤m→reach a m=some (m-d)
 pos:∀x∈a,0≤bel x
theorem Off.append {a b:List Nd}{d e:Int}(h:Off a d)(k:Off b e)(he:0≤e)(hd:0≤d):Off (a++b) (d+e):=by
 refine⟨fun m hm=>?_,fun x hx=>(List.mem_append.1 hx).elim (h.pos x) (k.pos x)⟩
 rw[reach_append,h.run m (by omega)]
 show reach b (m-d)=_
 rw[k.run (m-d) (by omega)]
 congr 1;omega
theorem Off.cons {x:Nd}{a:List Nd}{d e:Int}(hx:0≤bel x)(h:Off a d)(he:0<e)(hd:e+(bel x-1)=d):Off (x::a) e:=by
 refine⟨fun m hm=>?_,fun y hy=>(List.mem_cons.1 hy).elim (fun q=>by rw[q];exact hx) (h.pos y)⟩
 simp only[reach]
 rw[if_pos (by omega),h.run _ (by omega)]
 congr 1;omega
theorem Off.nil:Off [] 0:=⟨fun m _=>by simp[reach],fun x hx=>by cases hx⟩
theorem reach_le:∀(a:List Nd) (m:Int),(∀x∈a,0≤bel x)→reach a m=some 0→m≤a.length
 | [],m,_,h=>by simp[reach]at h;simp;omega
 | x::a,m,hp,h=>by
   simp only[reach]at h
   split at h
   · have:=reach_le a _ (fun y hy=>hp y (by simp[hy])) h
     have h2:=hp x (by simp)
     simp;omega
   · cases h
theorem setLoop_off {pv:List Nd→Option (List Nd)}(hp:∀u r,pv u=some r→∃a,u=a++r∧Off a 1):
 ∀(k:Nat) (last:Option (List Nd)) (u r:List Nd),setLoop pv k last u=some r→∃a,u=a++r∧Off a k
 | 0,last,u,r,h=>by
   simp only[setLoop,Option.some.injEq]at h
   subst h
   exact⟨[],rfl,Off.nil⟩
 | k+1,last,u,r,h=>by
   simp only[setLoop]at h
   cases e:pv u with
   | none=>rw[e]at h;cases h
   | some rest=>
     simp only[e]at h
     split at h
     · obtain⟨a,rfl,ha⟩:=hp _ _ e
       obtain⟨b,rfl,hb⟩:=setLoop_off hp k _ rest r h
       refine⟨a++b,by simp,?_⟩
       have:=ha.append hb (by omega) (by omega)
       rw[show((k+1:Nat):Int)=1+(k:Int) by omega];exact this
     · cases h
theorem recLoop_off {pv:List Nd→Option (List Nd)}(hp:∀u r,pv u=some r→∃a,u=a++r∧Off a 1):
 ∀(k:Nat) (last:ByteArray) (u r:List Nd),recLoop pv k last u=some r→∃a,u=a++r∧Off a k
 | 0,last,u,r,h=>by
   simp only[recLoop,Option.some.injEq]at h
   subst h
   exact⟨[],rfl,Off.nil⟩
 | k+1,last,[],r,h=>by simp[recLoop]at h
 | k+1,last,x::u,r,h=>by
   simp only[recLoop]at h
   split at h
   · rename_i hx
     cases e:pv u with
     | none=>rw[e]at h;cases h
     | some rest=>
       simp only[e]at h
       obtain⟨a,rfl,ha⟩:=hp _ _ e
       obtain⟨b,rfl,hb⟩:=recLoop_off hp k _ rest r h
       refine⟨x::a++b,by simp,?_⟩
       have hxa:Off (x::a) 1:=Off.cons (by simp[bel,hx.1]) ha (by omega) (by simp[bel,hx.1])
       have:=hxa.append hb (by omega) (by omega)
       rw[show((k+1:Nat):Int)=1+(k:Int) by omega];exact this
   · cases h
theorem ndOk_n {x:Nd}(h:ndOk x=true)(h5:x.op=5∨x.op=6):0≤x.n:=by
 unfold ndOk at h
 rcases h5 with e | e<;>simp[e]at h<;>exact h.2
theorem pastV_off:∀(f:Nat) (u r:List Nd),pastV f u=some r→∃a,u=a++r∧Off a 1
 | 0,u,r,h=>by simp[pastV]at h
 | f+1,[],r,h=>by simp[pastV]at h
 | f+1,x::u,r,h=>by
   simp only[pastV]at h
   split at h
   · rename_i hx
     split at h
     · rename_i h5
       obtain⟨a,rfl,ha⟩:=setLoop_off (pastV_off f) _ _ _ _ h
       have hn:=ndOk_n hx.2 (.inl h5)
       exact⟨x::a,rfl,Off.cons (by simp[bel,h5];exact hn) ha (by omega) (by simp[bel,h5];omega)⟩
     · split at h
       · rename_i h5 h6
         obtain⟨a,rfl,ha⟩:=recLoop_off (pastV_off f) _ _ _ _ h
         have hn:=ndOk_n hx.2 (.inr h6)
         exact⟨x::a,rfl,Off.cons (by simp[bel,h6];exact hn) ha (by omega) (by simp[bel,h6];omega)⟩
       · rename_i h5 h6
         simp only[Option.some.injEq]at h
         subst h
         exact⟨[x],rfl,Off.cons (by simp[bel,h5,h6,hx.1]) Off.nil (by omega) (by simp[bel,h5,h6,hx.1])⟩
   · cases h
def itemP (f:Nat):List Nd→Option (List Nd)
 | []=>none
 | x::r=>if x.op=7 then pastV f r else pastV f (x::r)
theorem itemP_off {f:Nat}{u r:List Nd}(h:itemP f u=some r):∃a,u=a++r∧Off a 1∧a≠[]:=by
 cases u with
 | nil=>cases h
 | cons x u=>
   simp only[itemP]at h
   split at h
   · rename_i h7
     obtain⟨a,rfl,ha⟩:=pastV_off f _ _ h
     exact⟨x::a,rfl,Off.cons (by simp[bel,h7]) ha (by omega) (by simp[bel,h7]),by simp⟩
   · obtain⟨a,e,ha⟩:=pastV_off f _ _ h
     refine⟨a,e,ha,fun e0=>?_⟩
     subst e0
     have:=(pastV_shorter h).1
     simp at e
     rw[←e]at this;simp at this
inductive Segs (f:Nat):List Nd→List (List Nd)→Prop
 | nil:Segs f [] []
 | cons {a r:List Nd} {ss:List (List Nd)} (h:itemP f (a++r)=some r) (hs:Segs f r ss):Segs f (a++r) (a::ss)
theorem setLoop_segs {f:Nat}:∀(k:Nat) (last:Option (List Nd)) (u:List Nd),setLoop (pastV f) k last u=some []→∃ss,Segs f u ss∧ss.length=k∧∀s∈ss,∃x r,s=x::r∧x.op≠7
 | 0,last,u,h=>by
   simp only[setLoop,Option.some.injEq]at h
   subst h
   exact⟨[],.nil,rfl,by simp⟩
 | k+1,last,u,h=>by
   simp only[setLoop]at h
   cases e:pastV f u with
   | none=>rw[e]at h;cases h
   | some rest=>
     simp only[e]at h
     split at h
     · obtain⟨ss,h1,h2,h3⟩:=setLoop_segs k _ rest h
       obtain⟨a,rfl,_⟩:=pastV_off f _ _ e
       have hl:=(pastV_shorter e).1
       cases a with
       | nil=>simp at hl
       | cons x a=>
         have h7:x.op≠7:=fun h7=>by
          cases f with
          | zero=>simp[pastV]at e
          | succ f=>simp[pastV,h7]at e
         refine⟨(x::a)::ss,.cons (by simp only[List.cons_append,itemP,if_neg h7];exact e) h1,by simp[h2],?_⟩
         intro s hs
         rcases List.mem_cons.1 hs with rfl | hs
         · exact⟨x,a,rfl,h7⟩
         · exact h3 s hs
     · cases h
inductive Rising:ByteArray→List (List Nd)→Prop
 | nil (l:ByteArray):Rising l []
 | cons {l:ByteArray} {x:Nd} {r:List Nd} {ss:List (List Nd)} (h7:x.op=7) (hl:cmpB l x.s<0) (hs:Rising x.s ss):Rising l ((x::r)::ss)
theorem recLoop_segs {f:Nat}:∀(k:Nat) (last:ByteArray) (u:List Nd),recLoop (pastV f) k last u=some []→∃ss,Segs f u ss∧ss.length=k∧Rising last ss
 | 0,last,u,h=>by
   simp only[recLoop,Option.some.injEq]at h
   subst h
   exact⟨[],.nil,rfl,.nil _⟩
 | k+1,last,[],h=>by simp[recLoop]at h
 | k+1,last,x::u,h=>by
   simp only[recLoop]at h
   split at h
   · rename_i hx
     cases e:pastV f u with
     | none=>rw[e]at h;cases h
     | some rest=>
       simp only[e]at h
       obtain⟨ss,h1,h2,h3⟩:=recLoop_segs k _ rest h
       obtain⟨a,rfl,_⟩:=pastV_off f _ _ e
       exact⟨(x::a)::ss,.cons (a:=x::a) (by simp only[List.cons_append,itemP,if_pos hx.1];exact e) h1,by simp[h2],.cons hx.1 hx.2.2 h3⟩
   · cases h
def strip:List Nd→List Nd
 | []=>[]
 | x::r=>if x.op=7 then r else x::r
def nameOf:List Nd→ByteArray
 | []=>⟨#[]⟩
 | x::_=>if x.op=7 then x.s else⟨#[]⟩
theorem isVal_past {v:List Nd}(h:vfault v=0):v.length≤200∧pastV (v.length+1) v=some []:=by
 unfold vfault at h
 split at h
 · cases h
 · rename_i h1
   split at h
   · rename_i h2
     refine⟨by omega,?_⟩
     unfold isVal at h2
     cases e:pastV (v.length+1) v with
     | none=>rw[e]at h2;cases h2
     | some r=>
       rw[e]at h2
       cases r with
       | nil=>rfl
       | cons y r=>cases h2
   · cases h
theorem value_head {v:List Nd}(h:vfault v=0):∃x r,v=x::r∧v.length≤200∧x.op≠7∧ndOk x=true∧
 pastV (v.length+1) v=(if x.op=5 then setLoop (pastV v.length) x.n.toNat none r else if x.op=6 then recLoop (pastV v.length) x.n.toNat ⟨#[]⟩ r else some r):=by
 obtain⟨hl,hp⟩:=isVal_past h
 cases v with
 | nil=>simp[pastV]at hp
 | cons x r=>
   have hp':=hp
   simp only[List.length_cons,pastV]at hp
   split at hp
   · rename_i hx
     refine⟨x,r,rfl,hl,hx.1,hx.2,?_⟩
     rw[hp']
     simp only[List.length_cons]
     exact hp.symm
   · cases hp
theorem set_items {x:Nd}{r:List Nd}(h:vfault (x::r)=0)(h5:x.op=5):∃ss,Segs (x::r).length r ss∧ss.length=x.n.toNat∧∀s∈ss,∃y t,s=y::t∧y.op≠7:=by
 obtain⟨_,_,e,_,_,_,hp⟩:=value_head h
 cases e
 rw[(isVal_past h).2,if_pos h5]at hp
 exact setLoop_segs _ _ _ hp.symm
theorem rec_items {x:Nd}{r:List Nd}(h:vfault (x::r)=0)(h6:x.op=6):∃ss,Segs (x::r).length r ss∧ss.length=x.n.toNat∧Rising ⟨#[]⟩ ss:=by
 obtain⟨_,_,e,_,_,_,hp⟩:=value_head h
 cases e
 rw[(isVal_past h).2,if_neg (by omega),if_pos h6]at hp
 exact recLoop_segs _ _ _ hp.symm
theorem Segs.ne {f:Nat}{u:List Nd}{ss:List (List Nd)}(h:Segs f u ss):∀s∈ss,s≠[]:=by
 induction h with
 | nil=>simp
 | cons h hs ih=>
   intro s hs'
   rcases List.mem_cons.1 hs' with rfl | hs'
   · obtain⟨a',e,_,hne⟩:=itemP_off h
     obtain rfl:=List.append_cancel_right e
     exact hne
   · exact ih s hs'
theorem Segs.short {f:Nat}{u:List Nd}{ss:List (List Nd)}(h:Segs f u ss):∀s∈ss,s.length≤u.length:=by
 induction h with
 | nil=>simp
 | cons h hs ih=>
   intro s hs'
   rcases List.mem_cons.1 hs' with rfl | hs'
   · simp
   · have:=ih s hs';simp;omega
theorem take_behind {u rest s:List Nd}(h:rest.length≤u.length):(u++s).take ((u++s).length-(rest++s).length)=u.take (u.length-rest.length):=by
 have e:(u++s).length-(rest++s).length=u.length-rest.length:=by simp only[List.length_append];omega
 rw[e,List.take_append_of_le_length (by omega)]
theorem setLoop_behind {pv pw:List Nd→Option (List Nd)}{s:List Nd}(h:∀u r,pv u=some r→pw (u++s)=some (r++s))(hs:∀u r,pv u=some r→r.length<u.length):
 ∀(k:Nat) (last:Option (List Nd)) (u r:List Nd),setLoop pv k last u=some r→setLoop pw k last (u++s)=some (r++s)
 | 0,last,u,r,e=>by
   simp only[setLoop,Option.some.injEq]at e ⊢
   rw[e]
 | k+1,last,u,r,e=>by
   simp only[setLoop]at e ⊢
   cases e1:pv u with
   | none=>rw[e1]at e;cases e
   | some rest=>
     simp only[e1]at e
     rw[h u rest e1]
     simp only[]
     rw[take_behind (Nat.le_of_lt (hs u rest e1))]
     split at e
     · rename_i ha
       rw[if_pos ha]
       exact setLoop_behind h hs k _ rest r e
     · cases e
theorem recLoop_behind {pv pw:List Nd→Option (List Nd)}{s:List Nd}(h:∀u r,pv u=some r→pw (u++s)=some (r++s)):
 ∀(k:Nat) (last:ByteArray) (u r:List Nd),recLoop pv k last u=some r→recLoop pw k last (u++s)=some (r++s)
 | 0,last,u,r,e=>by
   simp only[recLoop,Option.some.injEq]at e ⊢
   rw[e]
 | k+1,last,[],r,e=>by simp[recLoop]at e
 | k+1,last,x::u,r,e=>by
   simp only[recLoop,List.cons_append]at e ⊢
   split at e
   · rename_i hx
     rw[if_pos hx]
     cases e1:pv u with
     | none=>rw[e1]at e;cases e
     | some rest=>
       simp only[e1]at e
       rw[h u rest e1]
       exact recLoop_behind h k _ rest r e
   · cases e
theorem pastV_behind (s:List Nd):∀(f g:Nat) (u r:List Nd),f≤g→pastV f u=some r→pastV g (u++s)=some (r++s)
 | 0,_,_,_,_,e=>by simp[pastV]at e
 | f+1,0,_,_,h,_=>absurd h (by omega)
 | f+1,g+1,[],r,_,e=>by simp[pastV]at e
 | f+1,g+1,x::u,r,h,e=>by
   have ih:=fun u r=>pastV_behind s f g u r (by omega)
   simp only[pastV,List.cons_append]at e ⊢
   split at e
   · rename_i hx
     rw[if_pos hx]
     split at e
     · rename_i h5
       rw[if_pos h5]
       exact setLoop_behind ih (fun u r e=>(pastV_shorter e).1) _ _ _ _ e
     · rename_i h5
       rw[if_neg h5]
       split at e
       · rename_i h6
         rw[if_pos h6]
         exact recLoop_behind ih _ _ _ _ e
       · rename_i h6
         rw[if_neg h6]
         simp only[Option.some.injEq]at e ⊢
         rw[e]
   · cases e
theorem value_behind {v:List Nd}(h:vfault v=0)(s:List Nd){g:Nat}(hg:v.length+1≤g):pastV g (v++s)=some s:=by
 have:=pastV_behind s (v.length+1) g v [] hg (isVal_past h).2
 simpa using this
theorem pastV_more (f:Nat){u r:List Nd}(h:pastV f u=some r)(s:List Nd):pastV f (u++s)=some (r++s):=pastV_behind s f f u r (Nat.le_refl _) h
theorem setLoop_front {pv:List Nd→Option (List Nd)}(h:∀u r,pv u=some r→∃a,u=a++r∧pv a=some [])(k1:∀u r,pv u=some r→∀s,pv (u++s)=some (r++s)):
 ∀(k:Nat) (last:Option (List Nd)) (u r:List Nd),setLoop pv k last u=some r→∃l:List (List Nd),u=l.flatten++r∧l.length=k∧Strict l∧(∀v∈l,pv v=some [])∧(∀v∈l,aheadOf last v=true)∧setLoop pv k last l.flatten=some []
 | 0,last,u,r,e=>by
   simp only[setLoop,Option.some.injEq]at e
   subst e
   exact⟨[],rfl,rfl,List.Pairwise.nil,by simp,by simp,rfl⟩
 | k+1,last,u,r,e=>by
   simp only[setLoop]at e
   cases e1:pv u with
   | none=>rw[e1]at e;cases e
   | some rest=>
     simp only[e1]at e
     obtain⟨a,rfl,ha⟩:=h u rest e1
     have ht:∀c:List Nd,(a++c).take ((a++c).length-c.length)=a:=fun c=>by rw[List.length_append,Nat.add_sub_cancel,List.take_left]
     rw[ht]at e
     split at e
     · rename_i hah
       obtain⟨l,rfl,hl,hs,hv,hlast,hloop⟩:=setLoop_front h k1 k (some a) rest r e
       refine⟨a::l,by simp,by simp[hl],List.pairwise_cons.2 ⟨fun v hm=>by simpa[aheadOf]using hlast v hm,hs⟩,?_,?_,?_⟩
       · intro v hm
         rcases List.mem_cons.1 hm with rfl | hm
         · exact ha
         · exact hv v hm
       · intro v hm
         rcases List.mem_cons.1 hm with rfl | hm
         · exact hah
         · cases last with
           | none=>rfl
           | some b=>
             have h1:lsC b a<0:=by simpa[aheadOf]using hah
             have h2:lsC a v<0:=by simpa[aheadOf]using hlast v hm
             have:=lsC_is.lt_le h1 (by omega:lsC a v≤0)
             simp[aheadOf,this]
       · simp only[setLoop,List.flatten_cons]
         rw[k1 a [] ha l.flatten]
         simp only[List.nil_append]
         rw[ht,if_pos hah]
         exact hloop
     · cases e
theorem recLoop_front {pv:List Nd→Option (List Nd)}(h:∀u r,pv u=some r→∃a,u=a++r∧pv a=some [])(k1:∀u r,pv u=some r→∀s,pv (u++s)=some (r++s)):
 ∀(k:Nat) (last:ByteArray) (u r:List Nd),recLoop pv k last u=some r→∃a,u=a++r∧recLoop pv k last a=some []
 | 0,last,u,r,e=>by
   simp only[recLoop,Option.some.injEq]at e
   subst e
   exact⟨[],rfl,rfl⟩
 | k+1,last,[],r,e=>by simp[recLoop]at e
 | k+1,last,x::u,r,e=>by
   simp only[recLoop]at e
   split at e
   · rename_i hx
     cases e1:pv u with
     | none=>rw[e1]at e;cases e
     | some rest=>
       simp only[e1]at e
       obtain⟨a,rfl,ha⟩:=h u rest e1
       obtain⟨c,rfl,hc⟩:=recLoop_front h k1 k _ rest r e
       refine⟨x::(a++c),by simp,?_⟩
       simp only[recLoop]
       rw[if_pos hx,k1 a [] ha c]
       exact hc
   · cases e
theorem pastV_front:∀(f:Nat) (u r:List Nd),pastV f u=some r→∃a,u=a++r∧pastV f a=some []
 | 0,_,_,e=>by simp[pastV]at e
 | f+1,[],r,e=>by simp[pastV]at e
 | f+1,x::u,r,e=>by
   have ih:=pastV_front f
   have k1:∀u r,pastV f u=some r→∀s,pastV f (u++s)=some (r++s):=fun u r h s=>pastV_more f h s
   simp only[pastV]at e
   split at e
   · rename_i hx
     split at e
     · rename_i h5
       obtain⟨l,rfl,_,_,_,_,hl⟩:=setLoop_front ih k1 _ _ _ _ e
       refine⟨x::l.flatten,rfl,?_⟩
       simp only[pastV]
       rw[if_pos hx,if_pos h5]
       exact hl
     · rename_i h5
       split at e
       · rename_i h6
         obtain⟨a,rfl,ha⟩:=recLoop_front ih k1 _ _ _ _ e
         refine⟨x::a,rfl,?_⟩
         simp only[pastV]
         rw[if_pos hx,if_neg h5,if_pos h6]
         exact ha
       · rename_i h6
         simp only[Option.some.injEq]at e
         subst e
         refine⟨[x],rfl,?_⟩
         simp only[pastV]
         rw[if_pos hx,if_neg h5,if_neg h6]
   · cases e
abbrev Fd:=ByteArray×List Nd
def RStrict (l:List Fd):Prop:=l.Pairwise fun a b=>cmpB a.1 b.1<0
theorem cmpB_self (a:ByteArray):cmpB a a=0:=cmpB_is.self a
theorem RStrict.ext:∀ {l m:List Fd},RStrict l→RStrict m→(∀x,x∈l↔x∈m)→l=m
 | [],[],_,_,_=>rfl
 | [],b::m,_,_,h=>by have:=(h b).2 (by simp);cases this
 | a::l,[],_,_,h=>by have:=(h a).1 (by simp);cases this
 | a::l,b::m,h1,h2,h=>by
   have h1':=List.pairwise_cons.1 h1
   have h2':=List.pairwise_cons.1 h2
   have hab:a=b:=by
    have ha:=(h a).1 (by simp)
    have hb:=(h b).2 (by simp)
    rcases List.mem_cons.1 ha with e | ha
    · exact e
    · rcases List.mem_cons.1 hb with e | hb
      · exact e.symm
      · have k1:=h2'.1 a ha
        have k2:=h1'.1 b hb
        have:=cmpB_is.lt_le k1 (by omega:cmpB a.1 b.1≤0)
        rw[cmpB_self]at this;omega
   subst hab
   congr 1
   refine RStrict.ext h1'.2 h2'.2 (fun x=>?_)
   have hx:=h x
   constructor
   · intro hl
     rcases List.mem_cons.1 (hx.1 (by simp[hl]))with e | hm
     · subst e
       have:=h1'.1 _ hl
       rw[cmpB_self]at this;omega
     · exact hm
   · intro hm
     rcases List.mem_cons.1 (hx.2 (by simp[hm]))with e | hl
     · subst e
       have:=h2'.1 _ hm
       rw[cmpB_self]at this;omega
     · exact hl
def insR (p:Fd):List Fd→List Fd
 | []=>[p]
 | q::l=>if cmpB p.1 q.1<0 then p::q::l else q::insR p l
def recS (ps:List Fd):List Fd:=ps.foldr insR []
theorem perm_insR (p:Fd):∀(l:List Fd),(insR p l).Perm (p::l)
 | []=>List.Perm.refl _
 | q::l=>by
   unfold insR
   split
   · exact List.Perm.refl _
   · exact((perm_insR p l).cons q).trans (List.Perm.swap p q l)
theorem strict_insR (p:Fd):∀(l:List Fd),RStrict l→(∀q∈l,q.1≠p.1)→RStrict (insR p l)
 | [],_,_=>by simp[insR,RStrict]
 | q::l,h,hd=>by
   have h':=List.pairwise_cons.1 h
   unfold insR
   split
   · rename_i hp
     refine List.pairwise_cons.2 ⟨fun x hx=>?_,h⟩
     rcases List.mem_cons.1 hx with rfl | hx
     · exact hp
     · exact cmpB_is.lt_le hp (by have:=h'.1 x hx;omega)
   · rename_i hp
     refine List.pairwise_cons.2 ⟨fun x hx=>?_,strict_insR p l h'.2 (fun y hy=>hd y (by simp[hy]))⟩
     rcases List.mem_cons.1 ((perm_insR p l).mem_iff.1 hx)with rfl | hx
     · have h1:=cmpB_is.neg q.1 x.1
       have h2:=cmpB_is.range q.1 x.1
       have h3:cmpB q.1 x.1≠0:=fun e=>hd q (by simp) ((cmpB_is.zero _ _).1 e)
       omega
     · exact h'.1 x hx
theorem perm_recS (ps:List Fd):(recS ps).Perm ps:=by
 induction ps with
 | nil=>exact List.Perm.refl _
 | cons p ps ih=>exact(perm_insR p _).trans (ih.cons p)
theorem strict_recS:∀(ps:List Fd),(ps.map Prod.fst).Nodup→RStrict (recS ps)
 | [],_=>List.Pairwise.nil
 | p::ps,h=>by
   simp only[List.map_cons,List.nodup_cons]at h
   refine strict_insR p _ (strict_recS ps h.2) (fun q hq e=>h.1 ?_)
   rw[←e]
   exact List.mem_map_of_mem ((perm_recS ps).mem_iff.1 hq)
theorem recS_is {ps l:List Fd}(hn:(ps.map Prod.fst).Nodup)(h:RStrict l)(hm:∀x,x∈l↔x∈ps):l=recS ps:=
 RStrict.ext h (strict_recS ps hn) (fun x=>(hm x).trans (perm_recS ps).mem_iff.symm)
def itemOf (p:Fd):List Nd:=⟨7,0,p.1,⟨#[]⟩⟩::p.2
def recN (l:List Fd):List Nd:=⟨6,l.length,⟨#[]⟩,⟨#[]⟩⟩::(l.map itemOf).flatten
def fsize:List Fd→Nat
 | []=>0
 | p::l=>(1+p.2.length)+fsize l
theorem fsize_flat (l:List Fd):(l.map itemOf).flatten.length=fsize l:=by
 induction l with
 | nil=>rfl
 | cons p l ih=>simp only[List.map_cons,List.flatten_cons,List.length_append,ih,fsize,itemOf,List.length_cons];omega
theorem fsize_perm {l m:List Fd}(h:l.Perm m):fsize l=fsize m:=by
 induction h with
 | nil=>rfl
 | cons p _ ih=>simp only[fsize,ih]
 | swap p q l=>simp only[fsize];omega
 | trans _ _ h1 h2=>exact h1.trans h2
theorem fsize_append (l m:List Fd):fsize (l++m)=fsize l+fsize m:=by
 induction l with
 | nil=>simp[fsize]
 | cons p l ih=>simp only[List.cons_append,fsize,ih];omega
theorem recN_length (l:List Fd):(recN l).length=fsize l+1:=by simp only[recN,List.length_cons,fsize_flat]
theorem recN_perm {l m:List Fd}(h:l.Perm m):(recN l).length=(recN m).length:=by rw[recN_length,recN_length,fsize_perm h]
def seenB (l:List ByteArray)(x:ByteArray):Bool:=l.any fun y=>y.data.toList == x.data.toList
theorem seenB_iff (l:List ByteArray)(x:ByteArray):seenB l x=true↔x∈l:=by
 unfold seenB
 rw[List.any_eq_true]
 constructor
 · rintro⟨y,hy,e⟩
   rw[←bytes_inj (eq_of_beq e)]
   exact hy
 · intro h
   exact⟨x,h,by simp⟩
def rfault:List ByteArray→List Fd→Int
 | _,[]=>0
 | seen,p::l=>if nfault p.1.data.toList≠0 then nfault p.1.data.toList else if seenB seen p.1 then 6 else if vfault p.2≠0 then vfault p.2 else rfault (seen++[p.1]) l
theorem rfault_zero:∀(seen:List ByteArray) (l:List Fd),rfault seen l=0↔(∀p∈l,nfault p.1.data.toList=0∧vfault p.2=0)∧(∀p∈l,p.1∉seen)∧(l.map Prod.fst).Nodup
 | seen,[]=>by simp[rfault]
 | seen,p::l=>by
   unfold rfault
   by_cases h1:nfault p.1.data.toList≠0
   · rw[if_pos h1]
     exact⟨fun h=>absurd h h1,fun h=>absurd (h.1 p (by simp)).1 h1⟩
   · rw[if_neg h1]
     have h1':nfault p.1.data.toList=0:=Decidable.of_not_not h1
     by_cases h2:seenB seen p.1=true
     · rw[if_pos h2]
       exact⟨fun h=>absurd h (by decide),fun h=>absurd ((seenB_iff _ _).1 h2) (h.2.1 p (by simp))⟩
     · rw[if_neg h2]
       have h2':p.1∉seen:=fun hm=>h2 ((seenB_iff _ _).2 hm)
       by_cases h3:vfault p.2≠0
       · rw[if_pos h3]
         exact⟨fun h=>absurd h h3,fun h=>absurd (h.1 p (by simp)).2 h3⟩
       · rw[if_neg h3]
         have h3':vfault p.2=0:=Decidable.of_not_not h3
         rw[rfault_zero (seen++[p.1]) l]
         constructor
         · rintro⟨k1,k2,k3⟩
           refine⟨fun q hq=>?_,fun q hq=>?_,?_⟩
           · rcases List.mem_cons.1 hq with rfl | hq
             · exact⟨h1',h3'⟩
             · exact k1 q hq
           · rcases List.mem_cons.1 hq with rfl | hq
             · exact h2'
             · exact fun hm=>k2 q hq (by simp[hm])
           · rw[List.map_cons,List.nodup_cons]
             refine⟨fun hm=>?_,k3⟩
             obtain⟨q,hq,e⟩:=List.mem_map.1 hm
             exact k2 q hq (by simp[e])
         · rintro⟨k1,k2,k3⟩
           rw[List.map_cons,List.nodup_cons]at k3
           refine⟨fun q hq=>k1 q (by simp[hq]),fun q hq hm=>?_,k3.2⟩
           rcases List.mem_append.1 hm with hm | hm
           · exact k2 q (by simp[hq]) hm
           · simp at hm
             exact k3.1 (by rw[←hm];exact List.mem_map_of_mem hq)
def n64 (x:Nd):Prop:=x.op=2→ -9223372036854775808≤x.n∧x.n≤9223372036854775807
inductive Tp where
 | nil:Tp
 | cons (x:Nd) (k r:Tp):Tp
namespace Tp
def flat:Tp→List Nd
 | nil=>[]
 | cons x k r=>x::(k.flat++r.flat)
def len:Tp→Nat
 | nil=>0
 | cons _ _ r=>r.len+1
def app:Tp→Tp→Tp
 | nil,b=>b
 | cons x k r,b=>cons x k (r.app b)
def sz:Tp→Nat
 | nil=>0
 | cons x k r=>k.sz+r.sz+1
def find (s:ByteArray):Tp→Option (Nd×Tp)
 | nil=>none
 | cons f kf r=>if f.s=s then some (f,kf)else r.find s
end Tp
theorem tp_app_len:∀a b:Tp,(a.app b).len=a.len+b.len
 | .nil,b=>by simp[Tp.app,Tp.len]
 | .cons x k r,b=>by simp[Tp.app,Tp.len,tp_app_len r b];omega
theorem tp_app_flat:∀a b:Tp,(a.app b).flat=a.flat++b.flat
 | .nil,b=>rfl
 | .cons x k r,b=>by simp[Tp.app,Tp.flat,tp_app_flat r b]
theorem tp_app_nil:∀a:Tp,a.app .nil=a
 | .nil=>rfl
 | .cons x k r=>by simp[Tp.app,tp_app_nil r]
theorem tp_app_assoc:∀a b c:Tp,(a.app b).app c=a.app (b.app c)
 | .nil,b,c=>rfl
 | .cons x k r,b,c=>by simp[Tp.app,tp_app_assoc r b c]
theorem tp_len_flat:∀t:Tp,t.len≤t.flat.length
 | .nil=>by simp[Tp.len]
 | .cons x k r=>by have:=tp_len_flat r;simp[Tp.len,Tp.flat];omega
theorem tp_sz_flat:∀t:Tp,t.sz=t.flat.length
 | .nil=>rfl
 | .cons x k r=>by simp[Tp.sz,Tp.flat,tp_sz_flat k,tp_sz_flat r]
theorem tp_len0:∀ {t:Tp},t.len=0→t= .nil
 | .nil,_=>rfl
 | .cons _ _ _,h=>by simp[Tp.len]at h
theorem tp_len1:∀ {t:Tp},t.len=1→∃x k,t= .cons x k .nil
 | .nil,h=>by simp[Tp.len]at h
 | .cons x k r,h=>⟨x,k,by rw[tp_len0 (t:=r) (by simpa[Tp.len]using h)]⟩
def e0:ByteArray:=⟨#[]⟩
def lfN (op:Int):Nd:=⟨op,0,e0,e0⟩
def fdN (s:ByteArray)(n:Int):Nd:=⟨47,n,s,e0⟩
def cntK (x:Nd):Int:=if x.op=5∨x.op=6∨x.op=46 then x.n else if x.op=7∨x.op=45∨x.op=47 then 1 else 0
def arK:Tp→Prop
 | .nil=>True
 | .cons x k r=>(cntK x).toNat=k.len∧arK k∧arK r
theorem arK_app:∀ {a b:Tp},arK (a.app b)↔arK a∧arK b
 | .nil,b=>by simp[Tp.app,arK]
 | .cons x k r,b=>by simp[Tp.app,arK,arK_app (a:=r) (b:=b),and_assoc]
theorem tp_flat_inj:∀(a b:Tp) (u v:List Nd),arK a→arK b→a.len=b.len→a.flat++u=b.flat++v→a=b∧u=v
 | .nil,.nil,u,v,_,_,_,h=>⟨rfl,by simpa[Tp.flat]using h⟩
 | .nil,.cons _ _ _,u,v,_,_,hl,_=>by simp[Tp.len]at hl
 | .cons _ _ _,.nil,u,v,_,_,hl,_=>by simp[Tp.len]at hl
 | .cons x k r,.cons y l s,u,v,⟨h1,h2,h3⟩,⟨k1,k2,k3⟩,hl,h=>by
   simp only[Tp.flat,List.cons_append,List.cons.injEq,List.append_assoc]at h
   obtain⟨rfl,h⟩:=h
   obtain⟨e1,hh⟩:=tp_flat_inj k l _ _ h2 k2 (by rw[←h1,←k1]) h
   obtain⟨e2,hz⟩:=tp_flat_inj r s _ _ h3 k3 (by simpa[Tp.len]using hl) hh
   subst e1 e2
   exact⟨rfl,hz⟩
theorem tp_split:∀(t:Tp) (n:Nat),n≤t.len→∃a b:Tp,t=a.app b∧a.len=n
 | t,0,_=>⟨.nil,t,rfl,rfl⟩
 | .nil,n+1,h=>by simp[Tp.len]at h
 | .cons x k r,n+1,h=>by
   obtain⟨a,b,h1,h2⟩:=tp_split r n (by simpa[Tp.len]using h)
   exact⟨.cons x k a,b,by rw[h1];rfl,by simp[Tp.len,h2]⟩
def isTy:Option ByteArray→Tp→Bool
 | _,.nil=>true
 | none,.cons x k r=>
   (decide (x.t=e0) && (if x.op=44 then decide (x.n=0) && (nfault x.s.data.toList == 0) && decide (k.len=0)
    else decide (x.s=e0) && (if x.op=45 then decide (x.n=0) && decide (k.len=1) && isTy none k
     else if x.op=46 then decide (0≤x.n) && decide ((k.len:Int)=x.n) && isTy (some e0) k
     else decide (x.n=0) && decide (x.op=41∨x.op=42∨x.op=43∨x.op=48∨x.op=49) && decide (k.len=0)))) && isTy none r
 | some l,.cons x k r=>
   (decide (x.op=47) && decide (x.n=0∨x.n=1) && decide (x.t=e0) && (nfault x.s.data.toList == 0) && decide (cmpB l x.s<0) && decide (k.len=1) && isTy none k) && isTy (some x.s) r
def T1 (t:Tp):Prop:=t.len=1∧isTy none t=true
def Fl (l:ByteArray)(t:Tp):Prop:=isTy (some l) t=true
theorem Fl.cons_iff {l:ByteArray}{f:Nd}{kf r:Tp}:Fl l (.cons f kf r)↔(f.op=47∧(f.n=0∨f.n=1)∧f.t=e0∧nfault f.s.data.toList=0∧cmpB l f.s<0)∧T1 kf∧Fl f.s r:=by
 unfold Fl T1
 rw[isTy]
 simp only[Bool.and_eq_true,decide_eq_true_eq,beq_iff_eq]
 constructor
 · rintro⟨⟨⟨⟨⟨⟨⟨a,b⟩,c⟩,d⟩,e⟩,f⟩,g⟩,h⟩;exact⟨⟨a,b,c,d,e⟩,⟨f,g⟩,h⟩
 · rintro⟨⟨a,b,c,d,e⟩,⟨f,g⟩,h⟩;exact⟨⟨⟨⟨⟨⟨⟨a,b⟩,c⟩,d⟩,e⟩,f⟩,g⟩,h⟩
inductive TyC:Nd→Tp→Prop
 | leaf (op:Int) (h:op=41∨op=42∨op=43∨op=48∨op=49):TyC (lfN op) .nil
 | ent (s:ByteArray) (h:nfault s.data.toList=0):TyC ⟨44,0,s,e0⟩ .nil
 | set (k:Tp) (h:T1 k):TyC (lfN 45) k
 | rcd (k:Tp) (h:Fl e0 k):TyC ⟨46,k.len,e0,e0⟩ k
theorem isTy_none_cons {x:Nd}{k r:Tp}:isTy none (.cons x k r)=true↔TyC x k∧isTy none r=true:=by
 obtain⟨xo,xn,xs,xt⟩:=x
 rw[isTy]
 simp only[Bool.and_eq_true]
 refine and_congr_left (fun _=>?_)
 simp only[decide_eq_true_eq]
 constructor
 · rintro⟨rfl,h⟩
   split at h
   · rename_i h44
     subst h44
     simp only[Bool.and_eq_true,decide_eq_true_eq,beq_iff_eq]at h
     obtain⟨⟨rfl,h1⟩,h2⟩:=h
     rw[tp_len0 h2]
     exact .ent xs h1
   · simp only[Bool.and_eq_true,decide_eq_true_eq]at h
     obtain⟨rfl,h⟩:=h
     split at h
     · rename_i h45
       subst h45
       simp only[Bool.and_eq_true,decide_eq_true_eq]at h
       obtain⟨⟨rfl,h1⟩,h2⟩:=h
       exact .set k ⟨h1,h2⟩
     · split at h
       · rename_i h46
         subst h46
         simp only[Bool.and_eq_true,decide_eq_true_eq]at h
         obtain⟨⟨h0,rfl⟩,h2⟩:=h
         exact .rcd k h2
       · simp only[Bool.and_eq_true,decide_eq_true_eq]at h
         obtain⟨⟨rfl,h1⟩,h2⟩:=h
         rw[tp_len0 h2]
         exact .leaf xo h1
 · intro h
   cases h with
   | leaf op h=>
     refine⟨rfl,?_⟩
     simp only[]
     rw[if_neg (by omega),if_neg (by omega),if_neg (by omega)]
     simp[Tp.len,h]
   | ent s h=>exact⟨rfl,by simp[Tp.len,h]⟩
   | set k h=>exact⟨rfl,by simp[h.1,h.2,e0]⟩
   | rcd k h=>
     have h:isTy (some e0) k=true:=h
     exact⟨rfl,by simp[h]⟩
theorem T1.iff {x:Nd}{k:Tp}:T1 (.cons x k .nil)↔TyC x k:=by
 unfold T1
 rw[isTy_none_cons]
 simp[Tp.len,isTy]
theorem T1.of {t:Tp}(h:T1 t):∃x k,t= .cons x k .nil∧TyC x k:=by
 obtain⟨x,k,rfl⟩:=tp_len1 h.1
 exact⟨x,k,rfl,T1.iff.1 h⟩
theorem TyC.nil {x:Nd}{k:Tp}(h:TyC x k)(a:x.op≠45)(b:x.op≠46):k= .nil:=by
 cases h with
 | leaf op h=>rfl
 | ent s h=>rfl
 | set k h=>exact absurd rfl a
 | rcd k h=>exact absurd rfl b
theorem isTy_ar:∀(t:Tp) (m:Option ByteArray),isTy m t=true→arK t
 | .nil,_,_=>trivial
 | .cons x k r,none,h=>by
   obtain⟨h1,h2⟩:=isTy_none_cons.1 h
   refine⟨?_,?_,isTy_ar r none h2⟩
   · cases h1 with
     | leaf op h=>unfold cntK lfN;simp only[];rw[if_neg (by omega),if_neg (by omega)];rfl
     | ent s h=>simp[cntK,Tp.len]
     | set k h=>simp[cntK,lfN,h.1]
     | rcd k h=>simp[cntK]
   · cases h1 with
     | leaf op h=>trivial
     | ent s h=>trivial
     | set k h=>exact isTy_ar k none h.2
     | rcd k hk=>exact isTy_ar k _ hk
 | .cons x k r,some l,h=>by
   obtain⟨⟨h1,_⟩,h2,h3⟩:=Fl.cons_iff.1 h
   exact⟨by simp[cntK,h1,h2.1],isTy_ar k none h2.2,isTy_ar r _ h3⟩
theorem find_name {s:ByteArray}:∀ {t:Tp} {f:Nd} {kf:Tp},t.find s=some (f,kf)→f.s=s
 | .nil,f,kf,h=>by simp[Tp.find]at h
 | .cons x k r,f,kf,h=>by
   rw[Tp.find]at h
   split at h
   · simp only[Option.some.injEq,Prod.mk.injEq]at h
     obtain⟨rfl,rfl⟩:=h
     assumption
   · exact find_name h
theorem find_sz {s:ByteArray}:∀ {t:Tp} {f:Nd} {kf:Tp},t.find s=some (f,kf)→kf.sz<t.sz
 | .nil,f,kf,h=>by simp[Tp.find]at h
 | .cons x k r,f,kf,h=>by
   rw[Tp.find]at h
   split at h
   · simp only[Option.some.injEq,Prod.mk.injEq]at h
     obtain⟨rfl,rfl⟩:=h
     simp[Tp.sz];omega
   · have:=find_sz h;simp[Tp.sz];omega
theorem Fl.find {s:ByteArray}:∀ {t:Tp} {l:ByteArray} {f:Nd} {kf:Tp},Fl l t→t.find s=some (f,kf)→f=fdN s f.n∧(f.n=0∨f.n=1)∧nfault s.data.toList=0∧cmpB l s<0∧T1 kf
 | .nil,l,f,kf,_,h=>by simp[Tp.find]at h
 | .cons x k r,l,f,kf,hl,h=>by
   obtain⟨⟨h1,h2,h3,h4,h5⟩,h6,h7⟩:=Fl.cons_iff.1 hl
   rw[Tp.find]at h
   split at h
   · rename_i hs
     simp only[Option.some.injEq,Prod.mk.injEq]at h
     obtain⟨rfl,rfl⟩:=h
     subst hs
     obtain⟨xo,xn,xs,xt⟩:=x
     simp only at h1 h3
     subst h1 h3
     exact⟨rfl,h2,h4,h5,h6⟩
   · obtain⟨a,b,c,d,e⟩:=Fl.find h7 h
     exact⟨a,b,c,cmpB_is.lt_le h5 (by omega),e⟩
theorem Fl.low {l:ByteArray}{t:Tp}(h:Fl l t){s:ByteArray}(hs:cmpB s l≤0):t.find s=none:=by
 cases e:t.find s with
 | none=>rfl
 | some p=>
   obtain⟨_,_,_,h1,_⟩:=h.find (f:=p.1) (kf:=p.2) e
   have:=cmpB_is.lt_le h1 hs
   rw[cmpB_is.self]at this
   omega
theorem Fl.find_tail {l:ByteArray}{f:Nd}{kf r:Tp}(h:Fl l (.cons f kf r)){s:ByteArray}{g:Nd}{kg:Tp}(hs:r.find s=some (g,kg)):(Tp.cons f kf r).find s=some (g,kg):=by
 obtain⟨_,_,h7⟩:=Fl.cons_iff.1 h
 rw[Tp.find,if_neg,hs]
 intro e
 rw[h7.low (by rw[e,cmpB_is.self];omega)]at hs
 cases hs
theorem Fl.find_head {f:Nd}{kf r:Tp}:(Tp.cons f kf r).find f.s=some (f,kf):=by rw[Tp.find,if_pos rfl]
theorem find_ne {f:Nd}{kf r:Tp}{s:ByteArray}(h:f.s≠s):(Tp.cons f kf r).find s=r.find s:=by rw[Tp.find,if_neg h]
theorem Fl.from {l l':ByteArray}{t:Tp}(h:Fl l t)(hl:cmpB l' l≤0):Fl l' t:=by
 cases t with
 | nil=>simp[Fl,isTy]
 | cons x k r=>
   obtain⟨⟨h1,h2,h3,h4,h5⟩,h6,h7⟩:=Fl.cons_iff.1 h
   exact Fl.cons_iff.2 ⟨⟨h1,h2,h3,h4,cmpB_is.le_lt hl h5⟩,h6,h7⟩
theorem Fl.ext:∀ {t u:Tp} {l m:ByteArray},Fl l t→Fl m u→(∀s,t.find s=u.find s)→t=u
 | .nil,.nil,_,_,_,_,_=>rfl
 | .nil,.cons y k r,l,m,_,_,h=>by have:=h y.s;rw[Fl.find_head]at this;simp[Tp.find]at this
 | .cons y k r,.nil,l,m,_,_,h=>by have:=h y.s;rw[Fl.find_head]at this;simp[Tp.find]at this
 | .cons x k r,.cons y k' r',l,m,ht,hu,h=>by
   obtain⟨_,_,h7⟩:=Fl.cons_iff.1 ht
   obtain⟨_,_,k7⟩:=Fl.cons_iff.1 hu
   have hxy:x.s=y.s:=by
    have a:=h x.s
    have b:=h y.s
    rw[Fl.find_head]at a b
    have a':=a.symm
    rw[Tp.find]at a' b
    by_cases e:y.s=x.s
    · exact e.symm
    · rw[if_neg e]at a'
      rw[if_neg (fun q=>e q.symm)]at b
      have p:=(k7.find a').2.2.2.1
      have q:=(h7.find b).2.2.2.1
      have:=cmpB_is.neg x.s y.s
      omega
   have a:=h x.s
   rw[Fl.find_head,hxy,Fl.find_head]at a
   simp only[Option.some.injEq,Prod.mk.injEq]at a
   obtain⟨rfl,rfl⟩:=a
   have:r=r':=Fl.ext h7 k7 (fun s=>by
    have:=h s
    rw[Tp.find,Tp.find]at this
    by_cases e:x.s=s
    · rw[h7.low (by rw[←e,cmpB_is.self];omega),k7.low (by rw[←e,cmpB_is.self];omega)]
    · rw[if_neg e,if_neg e]at this;exact this)
   rw[this]
def musts (k:Tp):Tp→Bool
 | .nil=>true
 | .cons f _ r=>(decide (f.n≠1) || (match k.find f.s with | some (g,_)=>decide (g.n=1) | none=>false)) && musts k r
theorem musts_iff {k:Tp}:∀ {l:ByteArray} {m:Tp},Fl l m→(musts k m=true↔∀s g kg,m.find s=some (g,kg)→g.n=1→∃f kf,k.find s=some (f,kf)∧f.n=1)
 | l,.nil,_=>by simp[musts,Tp.find]
 | l,.cons x kx r,h=>by
   obtain⟨_,_,h7⟩:=Fl.cons_iff.1 h
   rw[musts,Bool.and_eq_true,musts_iff h7]
   constructor
   · rintro⟨h1,h2⟩ s g kg hs hg
     rw[Tp.find]at hs
     split at hs
     · rename_i e
       simp only[Option.some.injEq,Prod.mk.injEq]at hs
       obtain⟨rfl,rfl⟩:=hs
       subst e
       simp only[Bool.or_eq_true,decide_eq_true_eq]at h1
       rcases h1 with h1 | h1
       · exact absurd hg h1
       · cases e:k.find x.s with
         | none=>rw[e]at h1;cases h1
         | some p=>rw[e]at h1;exact⟨p.1,p.2,rfl,by simpa using h1⟩
     · exact h2 s g kg hs hg
   · intro h1
     refine⟨?_,fun s g kg hs hg=>h1 s g kg (h.find_tail hs) hg⟩
     by_cases e:x.n=1
     · obtain⟨f,kf,h2,h3⟩:=h1 x.s x kx Fl.find_head e
       rw[h2]
       simp[h3]
     · simp[e]
def ndEq (x y:Nd):Bool:=decide (x.op=y.op∧x.n=y.n∧x.s=y.s∧x.t=y.t)
theorem ndEq_iff {x y:Nd}:ndEq x y=true↔x=y:=by
 obtain⟨a,b,c,d⟩:=x
 obtain⟨a',b',c',d'⟩:=y
 simp[ndEq]
def blw:Bool→Tp→Tp→Bool
 | _,.nil,_=>true
 | false,.cons x k _,u=>
   match u with
   | .nil=>false
   | .cons y l _=>if x.op=49∨y.op=48 then true else if x.op≠y.op then false else if x.op=45 then blw false k l else if x.op=46 then blw true k l && musts k l else ndEq x y
 | true,.cons f kf r,l=>(match l.find f.s with | some (_,kg)=>blw false kf kg | none=>false) && blw true r l
theorem blw_cons (x y:Nd)(k l r s:Tp):blw false (.cons x k r) (.cons y l s)=if x.op=49∨y.op=48 then true else if x.op≠y.op then false else if x.op=45 then blw false k l else if x.op=46 then blw true k l && musts k l else ndEq x y:=by rw[blw]
theorem blw_flds (f:Nd)(kf r l:Tp):blw true (.cons f kf r) l=((match l.find f.s with | some (_,kg)=>blw false kf kg | none=>false) && blw true r l):=by rw[blw]
theorem flds_iff {m:Tp}:∀ {l:ByteArray} {k:Tp},Fl l k→(blw true k m=true↔∀s f kf,k.find s=some (f,kf)→∃g kg,m.find s=some (g,kg)∧blw false kf kg=true)
 | l,.nil,_=>by simp[blw,Tp.find]
 | l,.cons x kx r,h=>by
   obtain⟨_,_,h7⟩:=Fl.cons_iff.1 h
   rw[blw_flds,Bool.and_eq_true,flds_iff h7]
   constructor
   · rintro⟨h1,h2⟩ s f kf hs
     rw[Tp.find]at hs
     split at hs
     · rename_i e
       simp only[Option.some.injEq,Prod.mk.injEq]at hs
       obtain⟨rfl,rfl⟩:=hs
       subst e
       cases e:m.find x.s with
       | none=>rw[e]at h1;cases h1
       | some p=>rw[e]at h1;exact⟨p.1,p.2,rfl,h1⟩
     · exact h2 s f kf hs
   · intro h1
     refine⟨?_,fun s g kg hs=>h1 s g kg (h.find_tail hs)⟩
     obtain⟨g,kg,h2,h3⟩:=h1 x.s x kx Fl.find_head
     rw[h2]
     exact h3
theorem blw_none {u:Tp}(h:T1 u)(k r:Tp):blw false (.cons (lfN 49) k r) u=true:=by
 obtain⟨y,l,rfl,_⟩:=h.of
 rw[blw_cons];simp[lfN]
theorem blw_top (t:Tp)(k r:Tp):blw false t (.cons (lfN 48) k r)=true:=by
 cases t with
 | nil=>rw[blw]
 | cons x k r=>rw[blw_cons];simp[lfN]
theorem blw_sets (k l:Tp):blw false (.cons (lfN 45) k .nil) (.cons (lfN 45) l .nil)=blw false k l:=by rw[blw_cons];simp[lfN]
theorem blw_rcds (k l:Tp)(m n:Int)(r s:Tp):blw false (.cons ⟨46,m,e0,e0⟩ k r) (.cons ⟨46,n,e0,e0⟩ l s)=(blw true k l && musts k l):=by rw[blw_cons];simp
theorem rcds_iff {k l:Tp}{a b:ByteArray}(hk:Fl a k)(hl:Fl b l):(blw true k l && musts k l)=true↔(∀s f kf,k.find s=some (f,kf)→∃g kg,l.find s=some (g,kg)∧blw false kf kg=true)∧(∀s g kg,l.find s=some (g,kg)→g.n=1→∃f kf,k.find s=some (f,kf)∧f.n=1):=by
 rw[Bool.and_eq_true,flds_iff hk,musts_iff hl]
theorem blw_ways {x y:Nd}{k l:Tp}(hx:TyC x k)(hy:TyC y l)(h:blw false (.cons x k .nil) (.cons y l .nil)=true):x=lfN 49∨y=lfN 48∨(x=y∧k= .nil∧l= .nil∧x.op≠45∧x.op≠46)∨(x=lfN 45∧y=lfN 45∧T1 k∧T1 l∧blw false k l=true)∨(x=⟨46,k.len,e0,e0⟩∧y=⟨46,l.len,e0,e0⟩∧Fl e0 k∧Fl e0 l∧(blw true k l && musts k l)=true):=by
 rw[blw_cons]at h
 by_cases c1:x.op=49
 · left;cases hx with
   | leaf op h=>simp only[lfN]at c1;subst c1;rfl
   | ent s h=>simp at c1
   | set k h=>simp[lfN]at c1
   | rcd k h=>simp at c1
 by_cases c2:y.op=48
 · right;left;cases hy with
   | leaf op h=>simp only[lfN]at c2;subst c2;rfl
   | ent s h=>simp at c2
   | set k h=>simp[lfN]at c2
   | rcd k h=>simp at c2
 rw[if_neg (by omega)]at h
 by_cases c3:x.op=y.op
 · rw[if_neg (by omega)]at h
   by_cases c4:x.op=45
   · rw[if_pos c4]at h
     right;right;right;left
     cases hx with
     | leaf op h=>simp only[lfN]at c4;omega
     | ent s h=>simp at c4
     | rcd k h=>simp at c4
     | set k hk=>
       cases hy with
       | leaf op h=>simp only[lfN]at c3;omega
       | ent s h=>simp[lfN]at c3
       | rcd k h=>simp[lfN]at c3
       | set l hl=>exact⟨rfl,rfl,hk,hl,h⟩
   · rw[if_neg c4]at h
     by_cases c5:x.op=46
     · rw[if_pos c5]at h
       right;right;right;right
       cases hx with
       | leaf op h=>simp only[lfN]at c5;omega
       | ent s h=>simp at c5
       | set k h=>simp[lfN]at c5
       | rcd k hk=>
         cases hy with
         | leaf op h=>simp only[lfN]at c3;omega
         | ent s h=>simp at c3
         | set k h=>simp[lfN]at c3
         | rcd l hl=>exact⟨rfl,rfl,hk,hl,h⟩
     · rw[if_neg c5]at h
       have:=ndEq_iff.1 h
       subst this
       right;right;left
       refine⟨rfl,?_,?_,c4,c5⟩
       · cases hx with
         | leaf op h=>rfl
         | ent s h=>rfl
         | set k h=>simp[lfN]at c4
         | rcd k h=>simp at c5
       · cases hy with
         | leaf op h=>rfl
         | ent s h=>rfl
         | set k h=>simp[lfN]at c4
         | rcd k h=>simp at c5
 · rw[if_pos c3]at h;cases h
theorem blw_refl:∀(n:Nat) (t:Tp),t.sz<n→T1 t→blw false t t=true
 | 0,t,h,_=>by omega
 | n+1,t,h,ht=>by
   obtain⟨x,k,rfl,hx⟩:=ht.of
   simp only[Tp.sz]at h
   cases hx with
   | leaf op ho=>
     rw[blw_cons]
     have e:(lfN op).op=op:=rfl
     by_cases c:(lfN op).op=49∨(lfN op).op=48
     · rw[if_pos c]
     · rw[if_neg c,if_neg (by simp),if_neg (by omega),if_neg (by omega)];exact ndEq_iff.2 rfl
   | ent s h=>rw[blw_cons];simp[ndEq]
   | set k hk=>rw[blw_sets];exact blw_refl n k (by omega) hk
   | rcd k hk=>
     rw[blw_rcds,rcds_iff hk hk]
     exact⟨fun s f kf hs=>⟨f,kf,hs,blw_refl n kf (by have:=find_sz hs;omega) (hk.find hs).2.2.2.2⟩,fun s g kg hs hg=>⟨g,kg,hs,hg⟩⟩
theorem blw_trans:∀(n:Nat) (a b c:Tp),a.sz<n→T1 a→T1 b→T1 c→blw false a b=true→blw false b c=true→blw false a c=true
 | 0,a,b,c,h,_,_,_,_,_=>by omega
 | n+1,a,b,c,h,ha,hb,hc,h1,h2=>by
   obtain⟨x,k,rfl,hx⟩:=ha.of
   obtain⟨y,l,rfl,hy⟩:=hb.of
   obtain⟨z,m,rfl,hz⟩:=hc.of
   simp only[Tp.sz]at h
   rcases blw_ways hx hy h1 with e | e | ⟨e,e2,e3,e4,e5⟩ | ⟨e,e2,e3,e4,e5⟩ | ⟨e,e2,e3,e4,e5⟩
   · subst e;exact blw_none hc _ _
   · subst e
     rcases blw_ways hy hz h2 with e | e | ⟨e,e2,e3,e4,e5⟩ | ⟨e,e2,e3,e4,e5⟩ | ⟨e,e2,e3,e4,e5⟩
     · simp[lfN]at e
     · subst e;exact blw_top _ _ _
     · subst e;exact blw_top _ _ _
     · simp[lfN]at e
     · simp[lfN]at e
   · subst e e2 e3;exact h2
   · subst e e2
     rcases blw_ways hy hz h2 with e | e | ⟨e,f2,f3,f4,f5⟩ | ⟨e,f2,f3,f4,f5⟩ | ⟨e,f2,f3,f4,f5⟩
     · simp[lfN]at e
     · subst e;exact blw_top _ _ _
     · simp[lfN]at f4
     · subst f2;rw[blw_sets];exact blw_trans n k l m (by omega) e3 e4 f4 e5 f5
     · simp[lfN]at e
   · rcases blw_ways hy hz h2 with g | g | ⟨g,f2,f3,f4,f5⟩ | ⟨g,f2,f3,f4,f5⟩ | ⟨g,f2,f3,f4,f5⟩
     · rw[g]at e2;simp[lfN]at e2
     · subst g;exact blw_top _ _ _
     · rw[e2]at f5;simp at f5
     · rw[g]at e2;simp[lfN]at e2
     · subst e f2
       rw[blw_rcds,rcds_iff e3 f4]
       rw[rcds_iff e3 e4]at e5
       rw[rcds_iff f3 f4]at f5
       refine⟨fun s f kf hs=>?_,fun s q kq hs hq=>?_⟩
       · obtain⟨p,kp,p1,p2⟩:=e5.1 s f kf hs
         obtain⟨q,kq,q1,q2⟩:=f5.1 s p kp p1
         exact⟨q,kq,q1,blw_trans n kf kp kq (by have:=find_sz hs;omega) (e3.find hs).2.2.2.2 (f3.find p1).2.2.2.2 (f4.find q1).2.2.2.2 p2 q2⟩
       · obtain⟨p,kp,p1,p2⟩:=f5.2 s q kq hs hq
         exact e5.2 s p kp p1 p2
theorem blw_anti:∀(n:Nat) (a b:Tp),a.sz<n→T1 a→T1 b→blw false a b=true→blw false b a=true→a=b
 | 0,a,b,h,_,_,_,_=>by omega
 | n+1,a,b,h,ha,hb,h1,h2=>by
   obtain⟨x,k,rfl,hx⟩:=ha.of
   obtain⟨y,l,rfl,hy⟩:=hb.of
   simp only[Tp.sz]at h
   have hl:∀ {x:Nd} {k:Tp},TyC x k→x.op≠45→x.op≠46→k= .nil:=fun h=>h.nil
   rcases blw_ways hx hy h1 with e | e | ⟨e,e2,e3,e4,e5⟩ | ⟨e,e2,e3,e4,e5⟩ | ⟨e,e2,e3,e4,e5⟩
   · subst e
     rcases blw_ways hy hx h2 with g | g | ⟨g,_⟩ | ⟨g,g2,_⟩ | ⟨g,g2,_⟩
     · subst g;rw[hl hx (by simp[lfN]) (by simp[lfN]),hl hy (by simp[lfN]) (by simp[lfN])]
     · simp[lfN]at g
     · subst g;rw[hl hx (by simp[lfN]) (by simp[lfN]),hl hy (by simp[lfN]) (by simp[lfN])]
     · simp[lfN]at g2
     · simp[lfN]at g2
   · subst e
     rcases blw_ways hy hx h2 with g | g | ⟨g,_⟩ | ⟨g,g2,_⟩ | ⟨g,g2,_⟩
     · simp[lfN]at g
     · subst g;rw[hl hx (by simp[lfN]) (by simp[lfN]),hl hy (by simp[lfN]) (by simp[lfN])]
     · subst g;rw[hl hx (by simp[lfN]) (by simp[lfN]),hl hy (by simp[lfN]) (by simp[lfN])]
     · simp[lfN]at g
     · simp[lfN]at g
   · subst e e2 e3;rfl
   · subst e e2
     rw[blw_sets]at h2
     rw[blw_anti n k l (by omega) e3 e4 e5 h2]
   · rw[e,e2,blw_rcds,rcds_iff e4 e3]at h2
     rw[rcds_iff e3 e4]at e5
     have:k=l:=Fl.ext e3 e4 (fun s=>by
      cases ek:k.find s with
      | none=>
        cases el:l.find s with
        | none=>rfl
        | some p=>obtain⟨q,kq,q1,_⟩:=h2.1 s p.1 p.2 el;rw[ek]at q1;cases q1
      | some p=>
        obtain⟨f,kf⟩:=p
        obtain⟨g,kg,g1,g2⟩:=e5.1 s f kf ek
        obtain⟨f',kf',f1,f2⟩:=h2.1 s g kg g1
        rw[ek]at f1
        simp only[Option.some.injEq,Prod.mk.injEq]at f1
        obtain⟨rfl,rfl⟩:=f1
        have hf:=e3.find ek
        have hg:=e4.find g1
        have e6:=blw_anti n kf kg (by have:=find_sz ek;omega) hf.2.2.2.2 hg.2.2.2.2 g2 f2
        subst e6
        have hn:f.n=g.n:=by
         rcases hf.2.1 with a | a
         · rcases hg.2.1 with b | b
           · rw[a,b]
           · obtain⟨f',kf',p1,p2⟩:=e5.2 s g kf g1 b
             rw[ek]at p1
             simp only[Option.some.injEq,Prod.mk.injEq]at p1
             rw[p1.1,p2,b]
         · obtain⟨f',kf',p1,p2⟩:=h2.2 s f kf ek a
           rw[g1]at p1
           simp only[Option.some.injEq,Prod.mk.injEq]at p1
           rw[p1.1,p2,a]
        rw[g1,hf.1,hg.1,hn])
     subst this
     rw[e,e2]
def ahd (l:List ByteArray)(x:ByteArray):Nat:=l.countP fun y=>decide (cmpB y x<0)
theorem ahd_snoc (l:List ByteArray)(y x:ByteArray):ahd (l++[y]) x=if cmpB y x<0 then ahd l x+1 else ahd l x:=by
 unfold ahd
 rw[List.countP_append,List.countP_singleton]
 by_cases h:cmpB y x<0<;>simp[h]
theorem ahd_le (l:List ByteArray)(x:ByteArray):ahd l x≤l.length:=List.countP_le_length
theorem rank_of {S:List Fd}(hS:RStrict S){r:Nat}(hr:r<S.length):ahd (S.map Prod.fst) S[r].1=r:=by
 have e:S=S.take r++S[r]::S.drop (r+1):=by rw[←List.drop_eq_getElem_cons hr,List.take_append_drop]
 have hp:(S.take r++S[r]::S.drop (r+1)).Pairwise fun a b=>cmpB a.1 b.1<0:=by rw[←e];exact hS
 obtain⟨_,h2,h3⟩:=List.pairwise_append.1 hp
 have h2':=List.pairwise_cons.1 h2
 unfold ahd
 rw[List.countP_map]
 generalize S[r]=x at *
 rw[e,List.countP_append,List.countP_cons]
 have k1:(S.take r).countP ((fun y=>decide (cmpB y x.1<0))∘Prod.fst)=r:=by
  rw[List.countP_eq_length.2 (fun a ha=>by simpa using h3 a ha x (by simp))]
  simp;omega
 have k2:(S.drop (r+1)).countP ((fun y=>decide (cmpB y x.1<0))∘Prod.fst)=0:=by
  rw[List.countP_eq_zero]
  intro a ha
  have h4:=h2'.1 a ha
  have h5:=cmpB_is.neg a.1 x.1
  simp;omega
 rw[k1,k2]
 simp[cmpB_self]
theorem ahd_perm {l m:List ByteArray}(h:l.Perm m)(x:ByteArray):ahd l x=ahd m x:=h.countP_eq _
theorem rank_iff {names:List ByteArray}{vs:List (List Nd)}(hl:names.length=vs.length)(hnd:names.Nodup){i r:Nat}(hi:i<names.length)(hr:r<(recS (names.zip vs)).length):
 ahd names names[i]=r↔names[i]=(recS (names.zip vs))[r].1:=by
 have hf:(names.zip vs).map Prod.fst=names:=List.map_fst_zip (by omega)
 have hS:=strict_recS (names.zip vs) (by rw[hf];exact hnd)
 have hp:((recS (names.zip vs)).map Prod.fst).Perm names:=by
  have:=(perm_recS (names.zip vs)).map Prod.fst
  rw[hf]at this
  exact this
 constructor
 · intro h
   have hm:names[i]∈(recS (names.zip vs)).map Prod.fst:=hp.mem_iff.2 (List.getElem_mem _)
   obtain⟨j,hj,e⟩:=List.mem_iff_getElem.1 hm
   rw[List.length_map]at hj
   rw[List.getElem_map]at e
   have:=rank_of hS hj
   rw[ahd_perm hp,e,h]at this
   subst this
   exact e.symm
 · intro h
   rw[h,←ahd_perm hp,rank_of hS hr]
def cnt:List Fd→Nat→Nat
 | [],n=>n
 | p::l,n=>cnt l (if n≤200 then n+(1+p.2.length)else n)
theorem cnt_append (l m:List Fd)(n:Nat):cnt (l++m) n=cnt m (cnt l n):=by
 induction l generalizing n with
 | nil=>rfl
 | cons p l ih=>simp only[List.cons_append,cnt,ih]
theorem cnt_full:∀(l:List Fd) (n:Nat),200<n→cnt l n=n
 | [],_,_=>rfl
 | p::l,n,h=>by simp only[cnt];rw[if_neg (by omega)];exact cnt_full l n h
theorem cnt_le:∀(l:List Fd) (n:Nat),(cnt l n≤200↔n+fsize l≤200)∧(cnt l n≤200→cnt l n=n+fsize l)
 | [],n=>by simp[cnt,fsize]
 | p::l,n=>by
   simp only[cnt,fsize]
   by_cases h:n≤200
   · rw[if_pos h]
     have ih:=cnt_le l (n+(1+p.2.length))
     exact⟨by rw[ih.1];omega,fun h2=>by rw[ih.2 h2];omega⟩
   · rw[if_neg h,cnt_full l n (by omega)]
     exact⟨by omega,by omega⟩
theorem cnt_bound:∀(l:List Fd) (n:Nat),(∀p∈l,p.2.length≤200)→n≤401→cnt l n≤401
 | [],n,_,h=>h
 | p::l,n,hl,h=>by
   have hp:=hl p (by simp)
   simp only[cnt]
   split
   · exact cnt_bound l _ (fun q hq=>hl q (by simp[hq])) (by omega)
   · exact cnt_bound l _ (fun q hq=>hl q (by simp[hq])) h
def recK (l:List Fd)(k:Nat):List Nd:=⟨6,l.length,⟨#[]⟩,⟨#[]⟩⟩::((l.take k).map itemOf).flatten
theorem recK_all (l:List Fd):recK l l.length=recN l:=by unfold recK recN;rw[List.take_length]
theorem recK_next {l:List Fd}{k:Nat}(h:k<l.length):recK l (k+1)=(recK l k++[⟨7,0,l[k].1,⟨#[]⟩⟩])++l[k].2:=by
 unfold recK
 rw[List.take_succ_eq_append_getElem h,List.map_append,List.flatten_append]
 simp[itemOf]
theorem fsize_short:∀(l:List Fd),(∀p∈l,p.2.length≤200)→fsize l≤201*l.length
 | [],_=>by simp[fsize]
 | p::l,h=>by
   have h1:=fsize_short l (fun x hx=>h x (by simp[hx]))
   have h2:=h p (by simp)
   simp only[fsize,List.length_cons]
   omega
end Go.Proofs.YtlnhaajjoplafaaGreatDoor
