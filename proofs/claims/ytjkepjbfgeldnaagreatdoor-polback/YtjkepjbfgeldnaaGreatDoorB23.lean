import Derived.Test.YtjkepjbfgeldnaaGreatDoorB15
import Derived.Lib.AtoiAll
set_option linter.unusedVariables false
set_option maxHeartbeats 12000000
namespace Go.Proofs.YtjkepjbfgeldnaaGreatDoor
theorem parse_dv:∀(l:List UInt8) (acc:Nat),l.all digb=true→acc*10 ^ l.length+dv l<10 ^ 19→Lib.parseUint10 acc l= .ok (acc*10 ^ l.length+dv l)
 | [],acc,_,_=>by simp[Lib.parseUint10,dv]
 | c::r,acc,h,hl=>by
   simp only[List.all_cons,Bool.and_eq_true]at h
   obtain⟨h1,h2⟩:=dig_rng h.1
   have e:acc*10 ^ (c::r).length+dv (c::r)=(acc*10+(c.toNat-48))*10 ^ r.length+dv r:=by
    simp only[dv,List.length_cons,Nat.pow_succ,Nat.add_mul]
    rw[Nat.mul_assoc acc 10,Nat.mul_comm 10 (10 ^ r.length)]
    omega
   rw[e]at hl ⊢
   have hp:0<10 ^ r.length:=Nat.pow_pos (by decide)
   have hm:acc*10+(c.toNat-48)≤(acc*10+(c.toNat-48))*10 ^ r.length:=Nat.le_mul_of_pos_right _ hp
   have h19:(10:Nat) ^ 19=10000000000000000000:=by decide
   rw[Lib.parseUint10,if_pos ⟨h1,h2⟩,if_neg (by omega),if_neg (by omega)]
   exact parse_dv r _ h.2 hl
theorem mag_dv {l:List UInt8}(h:l.all digb=true)(hl:l.length≤19)(hne:l≠[]):Lib.parseMag l= .ok (dv l):=by
 unfold Lib.parseMag
 rw[if_neg hne,parse_dv l 0 h (by
  have:=dv_lt l h
  have h2:(10:Nat) ^ l.length≤10 ^ 19:=Nat.pow_le_pow_right (by decide) hl
  omega)]
 simp
theorem atoi_plain {t:Tk}(h:t.l.all digb=true)(hl:t.l.length≤19)(hne:t.l≠[]):Lib.atoiAll t.l=if great t false=true then .range else .ok (digV t.l):=by
 have hg:=great_iff (b:=false) h hl
 simp only[Bool.false_eq_true,if_false]at hg
 have hm:=mag_dv h hl hne
 have hd:=digV_dv h
 cases e:t.l with
 | nil=>exact absurd e hne
 | cons c r=>
   have hc:48≤c.toNat∧c.toNat≤57:=by
    rw[e]at h
    simp only[List.all_cons,Bool.and_eq_true]at h
    exact dig_rng h.1
   rw[e]at hm hd hg
   unfold Lib.atoiAll
   simp only
   rw[if_neg (by omega),hm]
   simp only
   rw[hd]
   have n1:¬c.toNat=45:=by omega
   by_cases hb:great t false=true
   · rw[if_pos hb,if_pos ⟨n1,by have:=hg.1 hb;omega⟩]
   · rw[if_neg hb,if_neg (by
    rintro⟨_,h9⟩
    exact hb (hg.2 (by omega))),if_neg (fun h=>n1 h.1),if_neg n1]
theorem atoi_minus {t:Tk}(h:t.l.all digb=true)(hl:t.l.length≤19)(hne:t.l≠[]):Lib.atoiAll (45::t.l)=if great t true=true then .range else .ok (-digV t.l):=by
 have hg:=great_iff (b:=true) h hl
 simp only[if_true]at hg
 have hm:=mag_dv h hl hne
 have hd:=digV_dv h
 have e45:(45:UInt8).toNat=45:=by decide
 unfold Lib.atoiAll
 simp only[e45]
 rw[if_pos (by simp),hm]
 simp only
 rw[hd]
 by_cases hb:great t true=true
 · rw[if_pos hb,if_neg (by simp),if_pos ⟨trivial,hg.1 hb⟩]
 · rw[if_neg hb,if_neg (by simp),if_neg (fun h9=>hb (hg.2 h9.2))]
   simp
theorem num_range {t:Tk}{b:Bool}(h:t.l.all digb=true)(hl:t.l.length≤19)(hg:great t b=false): -9223372036854775808≤(if b then-digV t.l else digV t.l)∧(if b then-digV t.l else digV t.l)≤9223372036854775807:=by
 have h1:=great_iff (b:=b) h hl
 rw[digV_dv h]
 have h2:¬(if b then 9223372036854775808 else 9223372036854775807)<dv t.l:=fun h9=>by rw[h1.2 h9]at hg;cases hg
 cases b
 · simp only[Bool.false_eq_true,if_false]at *
   omega
 · simp only[if_true]at *
   omega
theorem n64_op {x:Nd}(h:x.op≠2):n64 x:=fun e=>absurd e h
theorem opOf_ne (t:Tk):opOf t≠2:=by unfold opOf;repeat' split
                                    all_goals decide
theorem callOp_ne (t:Tk):callOp t≠2:=by unfold callOp;repeat' split
                                        all_goals decide
def Nn64 (l:List Nd):Prop:=∀y∈l,n64 y
theorem Nn64.nil:Nn64 []:=fun y h=>by cases h
theorem Nn64.cons {x:Nd}{l:List Nd}(h:n64 x)(k:Nn64 l):Nn64 (x::l):=fun y hy=>by
 rcases List.mem_cons.1 hy with rfl | hy
 · exact h
 · exact k y hy
theorem Nn64.app {a b:List Nd}(h:Nn64 a)(k:Nn64 b):Nn64 (a++b):=fun y hy=>by
 rcases List.mem_append.1 hy with hy | hy
 · exact h y hy
 · exact k y hy
theorem Nn64.tail {x:Nd}{l:List Nd}(h:Nn64 (x::l)):Nn64 l:=fun y hy=>h y (List.mem_cons_of_mem _ hy)
theorem n64_num {t:Tk}{b:Bool}(hs:spB t=true)(hk:t.kind=2)(hg:great t b=false):n64 (numN t b):=fun _=>by
 obtain⟨h1,h2,_⟩:=spB_two hs hk
 exact num_range h1 h2 hg
theorem Der.n64 {l:Nat}{a:List Tk}{x:List Nd}(h:Der l a x):AllS a→Nn64 x:=by
 induction h with
 | ite t u v a b c x y z _ _ _ _ _ _ ih1 ih2 ih3=>exact fun hs=>Nn64.cons (n64_op (by decide)) ((ih1 fun t ht=>hs t (by simp[ht])).app ((ih2 fun t ht=>hs t (by simp[ht])).app (ih3 fun t ht=>hs t (by simp[ht]))))
 | up l a x _ _ ih=>exact ih
 | bin l t a b x y _ _ _ _ ih1 ih2=>exact fun hs=>Nn64.cons (n64_op (opOf_ne t)) ((ih1 fun t ht=>hs t (by simp[ht])).app (ih2 fun t ht=>hs t (by simp[ht])))
 | rel t a b x y _ _ _ ih1 ih2=>exact fun hs=>Nn64.cons (n64_op (opOf_ne t)) ((ih1 fun t ht=>hs t (by simp[ht])).app (ih2 fun t ht=>hs t (by simp[ht])))
 | has t u a x _ _ _ ih=>
   intro hs
   refine Nn64.cons (n64_op ?_) (ih fun t ht=>hs t (by simp[ht]))
   show(if nam t wHas=true then(21:Int)else 24)≠2
   split<;>decide
 | like t u a x _ _ _ ih=>exact fun hs=>Nn64.cons (n64_op (by show(23:Int)≠2;decide)) (ih fun t ht=>hs t (by simp[ht]))
 | not t a x _ _ ih=>exact fun hs=>Nn64.cons (n64_op (by decide)) (ih fun t ht=>hs t (by simp[ht]))
 | neg t a x _ _ _ ih=>exact fun hs=>Nn64.cons (n64_op (by decide)) (ih fun t ht=>hs t (by simp[ht]))
 | get t u a x _ _ _ ih=>exact fun hs=>Nn64.cons (n64_op (by show(22:Int)≠2;decide)) (ih fun t ht=>hs t (by simp[ht]))
 | call t u v w a b x y _ _ _ _ _ _ _ ih1 ih2=>exact fun hs=>Nn64.cons (n64_op (callOp_ne u)) ((ih1 fun t ht=>hs t (by simp[ht])).app (ih2 fun t ht=>hs t (by simp[ht])))
 | num t h1 h2=>exact fun hs=>Nn64.cons (n64_num (hs t (by simp)) h1 h2) Nn64.nil
 | mnum t u _ h1 h2=>exact fun hs=>Nn64.cons (n64_num (hs u (by simp)) h1 h2) Nn64.nil
 | text t _=>exact fun hs=>Nn64.cons (n64_op (by show(3:Int)≠2;decide)) Nn64.nil
 | slot t _=>exact fun hs=>Nn64.cons (n64_op (by show(8:Int)≠2;decide)) Nn64.nil
 | ent t u v _ _ _=>exact fun hs=>Nn64.cons (n64_op (by show(4:Int)≠2;decide)) Nn64.nil
 | yes t _=>exact fun hs=>Nn64.cons (n64_op (by show(1:Int)≠2;decide)) Nn64.nil
 | no t _=>exact fun hs=>Nn64.cons (n64_op (by show(1:Int)≠2;decide)) Nn64.nil
 | var t _ _ _ _=>exact fun hs=>Nn64.cons (n64_op (by show(8:Int)≠2;decide)) Nn64.nil
 | round t u a x _ _ _ ih=>exact fun hs=>ih fun t ht=>hs t (by simp[ht])
 | set0 t u _ _=>exact fun hs=>Nn64.cons (n64_op (by show(5:Int)≠2;decide)) Nn64.nil
 | set t u a x _ _ _ ih=>exact fun hs=>ih fun t ht=>hs t (by simp[ht])
 | rec0 t u _ _=>exact fun hs=>Nn64.cons (n64_op (by show(6:Int)≠2;decide)) Nn64.nil
 | fields t u k nm a x _ _ _ ih=>exact fun hs=>Nn64.cons (n64_op (by show(6:Int)≠2;decide)) (ih fun t ht=>hs t (by simp[ht])).tail
 | one a x _ ih=>exact fun hs=>Nn64.cons (n64_op (by show(5:Int)≠2;decide)) (ih hs)
 | more t k a b x y _ _ _ ih1 ih2=>exact fun hs=>Nn64.cons (n64_op (by show(5:Int)≠2;decide)) ((ih1 fun t ht=>hs t (by simp[ht])).tail.app (ih2 fun t ht=>hs t (by simp[ht])))
 | fone u c b y _ _ _ _ ih=>exact fun hs=>Nn64.cons (n64_op (by show(6:Int)≠2;decide)) (Nn64.cons (n64_op (by show(7:Int)≠2;decide)) (ih fun t ht=>hs t (by simp[ht])))
 | fmore t u c k nm a b x y _ _ _ _ _ _ ih1 ih2=>exact fun hs=>Nn64.cons (n64_op (by show(6:Int)≠2;decide)) ((ih1 fun t ht=>hs t (by simp[ht])).tail.app (Nn64.cons (n64_op (by show(7:Int)≠2;decide)) (ih2 fun t ht=>hs t (by simp[ht]))))
theorem parse_n64 {ts:List Tk}{e:List Nd}(h:parseL ts= .ok e):∀x∈e,n64 x:=by
 obtain⟨_,h2,h3,_⟩:=ok_parse h
 exact h3.n64 h2
end Go.Proofs.YtjkepjbfgeldnaaGreatDoor
