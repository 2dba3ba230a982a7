import Derived.Test.YtgbljlabifpmgaaGreatDoorP11
import Derived.Deep.QuietTactic
import Derived.Test.YtgbljlabifpmgaaGreatDoorP10
import Derived.Test.YtgbljlabifpmgaaGreatDoorP1
set_option linter.unusedVariables false
set_option maxHeartbeats 12000000
namespace Go.Proofs.YtgbljlabifpmgaaGreatDoor
open Go.RowKit
theorem r2Letter_any (c:UInt8)(w:World):
 Calls Tryz.prog 45 #[.int .u8 (c.toNat:Int)] w fun e w'=>e= .returned (.bool (letb c))∧w'=w:=by
 go_enter Tryz.func45,Tryz.ntmps45
 go_wp2
 all_goals
  go_ret
  refine⟨ret_bool ?_,rfl⟩
  rw[Bool.eq_iff_iff]
  simp[letb]
  omega
theorem r2Digit_any (c:UInt8)(w:World):
 Calls Tryz.prog 43 #[.int .u8 (c.toNat:Int)] w fun e w'=>e= .returned (.bool (digb c))∧w'=w:=by
 go_enter Tryz.func43,Tryz.ntmps43
 go_wp2
 all_goals
  go_ret
  refine⟨ret_bool ?_,rfl⟩
  rw[Bool.eq_iff_iff]
  simp[digb]
  omega
theorem runL_yes {p:UInt8→Bool}{c:UInt8}(h:p c=true)(r:List UInt8):runL p (c::r)=runL p r+1:=by
 unfold runL;rw[List.takeWhile_cons,if_pos h];rfl
theorem runL_no {p:UInt8→Bool}{c:UInt8}(h:p c=false)(r:List UInt8):runL p (c::r)=0:=by
 unfold runL;rw[List.takeWhile_cons,if_neg (by rw[h];decide)];rfl
theorem runL_nil {p:UInt8→Bool}:runL p []=0:=rfl
def setOf (dg:Bool):UInt8→Bool:=if dg then digb else namb
theorem refRun_any (s:ByteArray)(k:Nat)(dg:Bool)(w:World)(hk:k≤s.size)(hs:s.size≤maxLen):
 Calls Tryz.prog 44 #[.string s,.int .i64 k,.bool dg] w fun e w'=>e= .returned (.int .i64 ((k+runL (setOf dg) (s.data.toList.drop k):Nat):Int))∧w'=w:=by
 unfold maxLen at hs
 generalize hR:k+runL (setOf dg) (s.data.toList.drop k)=R
 have HR:Hid (k+runL (setOf dg) (s.data.toList.drop k)=R):=hR
 clear hR
 cases dg
 all_goals
  go_enter Tryz.func44,Tryz.ntmps44
  go_wp2
 · go_loop [1] (fun i=>∃j:Nat,j≤s.size∧i= .int .i64 j∧Hid (j+runL (setOf false) (s.data.toList.drop j)=R)) (fun i=>s.size-(intOf i).toNat)
   case atStart=>exact⟨k,hk,rfl,HR⟩
   case round=>
    clear HR hk
    obtain⟨j,hj,rfl,HR⟩:=hrel
    by_cases hlt:j<s.size
    · have i1:(j:Int)<(s.size:Int):=by omega
      have HD:Hid (_=_):=drop_at s j hlt
      cases hd:digb s[j]<;>cases hl:letb s[j]
      · have HN:Hid (R=j):=by
         have:=HR.out
         rw[HD.out,runL_no (by show namb _=_;unfold namb;rw[hd,hl];rfl)]at this
         exact this.symm
        go_wp2_with (first | (go_at_call 45;refine(r2Letter_any _ _).mono ?_;rintro e w' ⟨rfl,rfl⟩;rw[hl]) | (go_at_call 43;refine(r2Digit_any _ _).mono ?_;rintro e w' ⟨rfl,rfl⟩;rw[hd]))
        go_ret
        exact⟨by rw[HN.out];rfl,rfl⟩
      all_goals
       have HN:Hid (j+1+runL (setOf false) (s.data.toList.drop (j+1))=R):=by
        have:=HR.out
        rw[HD.out,runL_yes (by show namb _=_;unfold namb;rw[hd,hl];rfl)]at this
        show _=_
        omega
       go_wp2_with (first | (go_at_call 45;refine(r2Letter_any _ _).mono ?_;rintro e w' ⟨rfl,rfl⟩;rw[hl]) | (go_at_call 43;refine(r2Digit_any _ _).mono ?_;rintro e w' ⟨rfl,rfl⟩;rw[hd]))
       go_round
       case rel=>exact⟨j+1,by omega,by go_num,HN⟩
       case measure=>simp[intOf];omega
    · obtain rfl:j=s.size:=by omega
      have i1:¬(s.size:Int)<(s.size:Int):=by omega
      have HN:Hid (R=s.size):=by
       have:=HR.out
       rw[List.drop_of_length_le (by simp),runL_nil]at this
       exact this.symm
      go_wp2
      go_ret
      exact⟨by rw[HN.out];rfl,rfl⟩
 · go_loop [1] (fun i=>∃j:Nat,j≤s.size∧i= .int .i64 j∧Hid (j+runL (setOf true) (s.data.toList.drop j)=R)) (fun i=>s.size-(intOf i).toNat)
   case atStart=>exact⟨k,hk,rfl,HR⟩
   case round=>
    clear HR hk
    obtain⟨j,hj,rfl,HR⟩:=hrel
    by_cases hlt:j<s.size
    · have i1:(j:Int)<(s.size:Int):=by omega
      have HD:Hid (_=_):=drop_at s j hlt
      cases hd:digb s[j]
      · have HN:Hid (R=j):=by
         have:=HR.out
         rw[HD.out,runL_no (show setOf true _=_ from hd)]at this
         exact this.symm
        go_wp2_with (go_at_call 43;refine(r2Digit_any _ _).mono ?_;rintro e w' ⟨rfl,rfl⟩;rw[hd])
        go_ret
        exact⟨by rw[HN.out];rfl,rfl⟩
      · have HN:Hid (j+1+runL (setOf true) (s.data.toList.drop (j+1))=R):=by
         have:=HR.out
         rw[HD.out,runL_yes (show setOf true _=_ from hd)]at this
         show _=_
         omega
        go_wp2_with (go_at_call 43;refine(r2Digit_any _ _).mono ?_;rintro e w' ⟨rfl,rfl⟩;rw[hd])
        go_round
        case rel=>exact⟨j+1,by omega,by go_num,HN⟩
        case measure=>simp[intOf];omega
    · obtain rfl:j=s.size:=by omega
      have i1:¬(s.size:Int)<(s.size:Int):=by omega
      have HN:Hid (R=s.size):=by
       have:=HR.out
       rw[List.drop_of_length_le (by simp),runL_nil]at this
       exact this.symm
      go_wp2
      go_ret
      exact⟨by rw[HN.out];rfl,rfl⟩
def bgn (x l:List UInt8):Bool:=x == l.take x.length
theorem bgn_short {x l:List UInt8}(h:l.length<x.length):bgn x l=false:=by
 unfold bgn
 cases e:(x == l.take x.length)with
 | false=>rfl
 | true=>
   have:=congrArg List.length (beq_iff_eq.1 e)
   rw[List.length_take]at this
   omega
theorem begins_any (s x:ByteArray)(k:Nat)(w:World)(hk:k≤s.size)(hs:s.size≤maxLen)(hx:x.size≤1000):
 Calls Tryz.prog 48 #[.string s,.int .i64 k,.string x] w fun e w'=>e= .returned (.bool (bgn x.data.toList (s.data.toList.drop k)))∧∃n,w'=w.drewN n:=by
 unfold maxLen at hs
 have hl:s.data.toList.length=s.size:=by simp
 have hxl:x.data.toList.length=x.size:=by simp
 by_cases h0:s.size-k<x.size
 · have HB:Hid (bgn x.data.toList (s.data.toList.drop k)=false):=bgn_short (by rw[List.length_drop];omega)
   have i1:(s.size:Int)-(k:Int)<(x.size:Int):=by omega
   go_enter Tryz.func48,Tryz.ntmps48
   go_wp2
   go_ret
   exact⟨by rw[HB.out];rfl,0,rfl⟩
 · have i1:¬(s.size:Int)-(k:Int)<(x.size:Int):=by omega
   go_enter Tryz.func48,Tryz.ntmps48
   go_wp2
   go_loopw [7] (fun i wr=>∃j n:Nat,j≤x.size∧i= .int .i64 j∧wr=w.drewN n∧Hid (x.data.toList.take j=(s.data.toList.drop k).take j)) (fun i _=>x.size-(intOf i).toNat)
   case atStart=>exact⟨0,0,Nat.zero_le _,rfl,rfl,rfl⟩
   case round=>
    obtain⟨j,n,hj,rfl,rfl,HE⟩:=hrel
    by_cases hlt:j<x.size
    · have i2:(j:Int)<(x.size:Int):=by omega
      have i3:(k:Int)+(j:Int)<(s.size:Int):=by omega
      have hkj:k+j<s.size:=by omega
      have hkj2:((k:Int)+(j:Int)).toNat<s.size:=by omega
      have hwr:IntKind.i64.wrap ((k:Int)+(j:Int))=(k:Int)+(j:Int):=IntWalk.i64_in _ (by omega)
      have i4:(0:Int)≤(k:Int)+(j:Int):=by omega
      have HX:Hid (x.data.toList.take (j+1)=x.data.toList.take j++[x[j]]):=take_snoc x j hlt
      have HS:Hid ((s.data.toList.drop k).take (j+1)=(s.data.toList.drop k).take j++[s[k+j]]):=by
       show _=_
       rw[List.take_succ_eq_append_getElem (by rw[List.length_drop];omega),List.getElem_drop];rfl
      by_cases he:s[k+j]=x[j]
      · have HE2:Hid (x.data.toList.take (j+1)=(s.data.toList.drop k).take (j+1)):=by
         show _=_;rw[HX.out,HS.out,HE.out,he]
        have he':(((s[((k:Int)+(j:Int)).toNat]'hkj2).toNat:Int) != (x[j].toNat:Int))=false:=by
         have htn:((k:Int)+(j:Int)).toNat=k+j:=by omega
         simp only[htn,he];simp
        clear he HX HS HE
        go_wp2
        go_quiet (fail)
        go_wp2
        go_roundw
        case rel=>exact⟨j+1,_,by omega,by go_num,rfl,HE2⟩
        case measure=>simp[intOf];omega
      · have HB:Hid (bgn x.data.toList (s.data.toList.drop k)=false):=by
         show _=_
         unfold bgn
         cases e:(x.data.toList == (s.data.toList.drop k).take x.data.toList.length)with
         | false=>rfl
         | true=>
           have e1:=congrArg (List.take (j+1)) (beq_iff_eq.1 e)
           rw[List.take_take,Nat.min_eq_left (by omega),HX.out,HS.out]at e1
           have e2:=List.append_inj_right' e1 rfl
           simp only[List.cons.injEq,and_true]at e2
           exact absurd e2.symm he
        have he':(((s[((k:Int)+(j:Int)).toNat]'hkj2).toNat:Int) != (x[j].toNat:Int))=true:=by
         have htn:((k:Int)+(j:Int)).toNat=k+j:=by omega
         simp only[htn]
         simp only[bne_iff_ne,ne_eq]
         exact fun h=>he (UInt8.toNat_inj.1 (by omega))
        clear he HX HS HE
        go_wp2
        go_quiet (fail)
        go_wp2
        go_ret
        exact⟨by rw[HB.out];rfl,_,by rw[World.drewN_drewN]⟩
    · obtain rfl:j=x.size:=by omega
      have i2:¬(x.size:Int)<(x.size:Int):=by omega
      have HB:Hid (bgn x.data.toList (s.data.toList.drop k)=true):=by
       show _=_
       unfold bgn
       have:=HE.out
       rw[take_all]at this
       rw[hxl,←this];simp
      go_wp2
      go_ret
      exact⟨by rw[HB.out];rfl,_,rfl⟩
def refW (k:Nat):Except Int (Int×List UInt8×Nat)→Value
 | .ok x=>.tuple #[.agg #[.int .i64 x.1,.string ⟨x.2.1.toArray⟩,.int .i64 k],.int .i64 ((k:Int)+(x.2.2:Int)),.int .i64 0]
 | .error n=>.tuple #[.agg #[.int .i64 0,.string ⟨#[]⟩,.int .i64 0],.int .i64 0,.int .i64 n]
theorem piece1 (s:ByteArray)(k:Nat)(h:k<s.size):(s.extract k (k+1)).data.toList=[s[k]]:=by
 rw[Lib.extract_data,show k+1-k=1 by omega,List.drop_eq_getElem_cons (by simpa using h)]
 rfl
theorem cat_l (a b:ByteArray):(a++b).data.toList=a.data.toList++b.data.toList:=by simp
theorem okb_no {c:UInt8}(h:okb c=false):(c.toNat:Int)<32∨(126:Int)<(c.toNat:Int):=by
 unfold okb at h
 simp only[Bool.and_eq_false_iff,decide_eq_false_iff_not]at h
 omega
theorem okb_yes {c:UInt8}(h:okb c=true):¬(c.toNat:Int)<32∧¬(126:Int)<(c.toNat:Int):=by
 unfold okb at h
 simp only[Bool.and_eq_true,decide_eq_true_eq]at h
 omega
theorem grd_not (c:UInt8)(h:grd c=false):((c.toNat:Int) != 34)=true∧((c.toNat:Int) != 92)=true:=by
 unfold grd at h
 simp only[Bool.or_eq_false_iff,beq_eq_false_iff_ne]at h
 exact⟨by simp;omega,by simp;omega⟩
theorem grd_way (c:UInt8)(h:grd c=true):((c.toNat:Int) != 34)=false∨(((c.toNat:Int) != 34)=true∧((c.toNat:Int) != 92)=false):=by
 unfold grd at h
 simp only[Bool.or_eq_true,beq_iff_eq]at h
 by_cases h1:c.toNat=34
 · exact .inl (by simp;omega)
 · exact .inr ⟨by simp;omega,by simp;omega⟩
def qfrom (k j:Nat)(T l:List UInt8)(R:Option (List UInt8×Nat)):Prop:=(qsc false l).map (fun x=>(T++x.1,j-(k+1)+x.2))=R
theorem qfrom_end {k j:Nat}{T:List UInt8}{R:Option (List UInt8×Nat)}(h:qfrom k j T [] R):R=none:=by
 unfold qfrom at h;rw[qsc_end]at h;exact h.symm
theorem qfrom_quote {k j:Nat}{T r:List UInt8}{c:UInt8}{R:Option (List UInt8×Nat)}(hc:(c.toNat == 34)=true)(h:qfrom k j T (c::r) R):R=some (T,j-(k+1)):=by
 unfold qfrom at h;rw[qsc_quote (by rw[hc];rfl)]at h;simpa using h.symm
theorem qfrom_plain {k j:Nat}{T r:List UInt8}{c:UInt8}{R:Option (List UInt8×Nat)}(hk:k+1≤j)(h34:(c.toNat == 34)=false)(h92:(c.toNat == 92)=false)(ho:okb c=true)(h:qfrom k j T (c::r) R):qfrom k (j+1) (T++[c]) r R:=by
 unfold qfrom at *
 rw[qsc_go (by rw[h34];rfl) (by rw[ho];rfl),h92]at h
 simp only[Bool.false_and]at h
 rw[←h]
 cases qsc false r with
 | none=>rfl
 | some x=>simp;omega
theorem qfrom_wrong {k j:Nat}{T r:List UInt8}{c:UInt8}{R:Option (List UInt8×Nat)}(h34:(c.toNat == 34)=false)(ho:okb c=false)(h:qfrom k j T (c::r) R):R=none:=by
 unfold qfrom at h
 rw[qsc_no (by rw[h34];rfl) (by rw[ho];rfl)]at h
 exact h.symm
theorem qsc_bs (r:List UInt8){c:UInt8}(hc:(c.toNat == 92)=true):qsc false (c::r)=(qsc true r).map fun x=>(x.1,x.2+1):=by
 obtain rfl:c=92:=UInt8.toNat_inj.1 (by simpa using hc)
 rw[qsc_go (by decide) (by decide)]
 rfl
theorem qfrom_cut {k j:Nat}{T:List UInt8}{c:UInt8}{R:Option (List UInt8×Nat)}(hc:(c.toNat == 92)=true)(h:qfrom k j T [c] R):R=none:=by
 unfold qfrom at h;rw[qsc_bs _ hc,qsc_end]at h;exact h.symm
theorem qfrom_bad {k j:Nat}{T r:List UInt8}{c d:UInt8}{R:Option (List UInt8×Nat)}(hc:(c.toNat == 92)=true)(hd:grd d=false)(h:qfrom k j T (c::d::r) R):R=none:=by
 unfold qfrom at h;rw[qsc_bs _ hc,qsc_no (by simp) (by rw[hd];simp)]at h;exact h.symm
theorem qfrom_guard {k j:Nat}{T r:List UInt8}{c d:UInt8}{R:Option (List UInt8×Nat)}(hk:k+1≤j)(hc:(c.toNat == 92)=true)(hd:grd d=true)(h:qfrom k j T (c::d::r) R):qfrom k (j+2) (T++[d]) r R:=by
 unfold qfrom at *
 rw[qsc_bs _ hc,qsc_go (by simp) (by rw[grd_ok hd,hd];rfl)]at h
 rw[←h]
 simp only[Bool.not_true,Bool.and_false]
 cases qsc false r with
 | none=>rfl
 | some x=>simp;omega
theorem refQuo_any (s:ByteArray)(k:Nat)(w:World)(hk:k<s.size)(hs:s.size≤140737488351232):
 Calls Tryz.prog 47 #[.string s,.int .i64 k] w fun e w'=>e= .returned (refW k (wQuo (s.data.toList.drop (k+1))))∧Below w.heap.size w w':=by
 have hl:s.data.toList.length=s.size:=by simp
 have hb0:Below w.heap.size w (w.alloc (.cells #[.int .i64 0,.string ⟨#[]⟩,.int .i64 0] 43)):=(Below.refl _ _).alloc (Nat.le_refl _) _
 have Hnone:Hid (∀R:Option (List UInt8×Nat),qsc false (s.data.toList.drop (k+1))=R→R=none→wQuo (s.data.toList.drop (k+1))= .error 1):=fun R h1 h2=>wQuo_none (by rw[h1,h2])
 have Hlong:Hid (∀(R:Option (List UInt8×Nat)) (x:List UInt8×Nat),qsc false (s.data.toList.drop (k+1))=R→R=some x→60<x.1.length→wQuo (s.data.toList.drop (k+1))= .error 4):=fun R x h1 h2 h3=>wQuo_long (by rw[h1,h2]) h3
 have Hgood:Hid (∀(R:Option (List UInt8×Nat)) (x:List UInt8×Nat),qsc false (s.data.toList.drop (k+1))=R→R=some x→¬ 60<x.1.length→wQuo (s.data.toList.drop (k+1))= .ok (3,x.1,x.2+2)):=fun R x h1 h2 h3=>wQuo_ok (by rw[h1,h2]) h3
 generalize hR:qsc false (s.data.toList.drop (k+1))=R at *
 have HR:Hid (qfrom k (k+1) [] (s.data.toList.drop (k+1)) R):=by
  show(qsc false (s.data.toList.drop (k+1))).map _=R
  rw[hR];cases R<;>simp
 clear hR
 have ik:(k:Int)<(s.size:Int):=by omega
 go_enter Tryz.func47,Tryz.ntmps47
 go_wp2
 go_loop [7,8] (fun t i=>∃(j:Nat) (T:ByteArray),k+1≤j∧j≤s.size∧T.size≤j∧i= .int .i64 j∧t= .string T∧Hid (qfrom k j T.data.toList (s.data.toList.drop j) R)) (fun _ i=>s.size-(intOf i).toNat)
 case atStart=>exact⟨k+1,⟨#[]⟩,Nat.le_refl _,by omega,Nat.zero_le _,by go_num,rfl,HR⟩
 case round=>
  clear HR
  obtain⟨j,T,hkj,hj,hT,rfl,rfl,HR⟩:=hrel
  by_cases hlt:j<s.size
  · have i1:(j:Int)<(s.size:Int):=by omega
    have HD:Hid (_=_):=drop_at s j hlt
    cases h34:(s[j].toNat == 34)
    · have n34:((s[j].toNat:Int) == 34)=false:=by simp at h34 ⊢; omega
      have m34:((s[j].toNat:Int) != 34)=true:=by simp at h34 ⊢; omega
      cases h92:(s[j].toNat == 92)
      · have n92:((s[j].toNat:Int) == 92)=false:=by simp at h92 ⊢; omega
        have i2:(j:Int)+1≤(s.size:Int):=by omega
        have hx:(s.extract j (j+1)).size=1:=by simp;omega
        cases ho:okb s[j]
        · have HW:Hid _:=Hnone.out _ rfl (qfrom_wrong h34 ho (by have:=HR.out;rw[HD.out]at this;exact this))
          clear Hnone Hlong Hgood h34 h92
          rcases okb_no ho with b1 | b2
          · go_wp2
            refine bodyPost_ret (v:=.tuple #[.agg #[.int .i64 0,.string ⟨#[]⟩,.int .i64 0],.int .i64 0,.int .i64 1]) (by simp[results,Tryz.results47,go_sem]) rfl ⟨by rw[HW.out];rfl,hb0⟩
          · have b1:¬(s[j].toNat:Int)<32:=by omega
            go_wp2
            refine bodyPost_ret (v:=.tuple #[.agg #[.int .i64 0,.string ⟨#[]⟩,.int .i64 0],.int .i64 0,.int .i64 1]) (by simp[results,Tryz.results47,go_sem]) rfl ⟨by rw[HW.out];rfl,hb0⟩
        · have HN:Hid (qfrom k (j+1) (T++s.extract j (j+1)).data.toList (s.data.toList.drop (j+1)) R):=by
           show qfrom _ _ _ _ _
           rw[cat_l,piece1 s j hlt]
           exact qfrom_plain hkj h34 h92 ho (by have:=HR.out;rw[HD.out]at this;exact this)
          obtain⟨b1,b2⟩:=okb_yes ho
          have hTs:(T++s.extract j (j+1)).size≤j+1:=by rw[ByteArray.size_append,hx];omega
          clear HR HD h34 h92 ho Hnone Hlong Hgood
          go_wp2
          go_round
          case rel=>exact⟨j+1,_,by omega,by omega,hTs,by go_num,rfl,HN⟩
          case measure=>simp[intOf];omega
      · have n92:((s[j].toNat:Int) == 92)=true:=by simp at h92 ⊢; omega
        by_cases hj1:j+1<s.size
        · have i2:¬(s.size:Int)≤(j:Int)+1:=by omega
          have i3:(j:Int)+1<(s.size:Int):=by omega
          have i4:(j:Int)+1+1≤(s.size:Int):=by omega
          have HD1:Hid (_=_):=drop_at s (j+1) hj1
          have hx:(s.extract (j+1) (j+1+1)).size=1:=by simp;omega
          cases hg:grd s[j+1]
          · have HW:Hid _:=Hnone.out _ rfl (qfrom_bad h92 hg (by have:=HR.out;rw[HD.out,HD1.out]at this;exact this))
            obtain⟨g1,g2⟩:=grd_not _ hg
            clear Hnone Hlong Hgood h34 h92
            go_wp2
            refine bodyPost_ret (v:=.tuple #[.agg #[.int .i64 0,.string ⟨#[]⟩,.int .i64 0],.int .i64 0,.int .i64 1]) (by simp[results,Tryz.results47,go_sem]) rfl ⟨by rw[HW.out];rfl,hb0⟩
          · have HN:Hid (qfrom k (j+2) (T++s.extract (j+1) (j+1+1)).data.toList (s.data.toList.drop (j+2)) R):=by
             show qfrom _ _ _ _ _
             rw[cat_l,piece1 s (j+1) hj1]
             exact qfrom_guard hkj h92 hg (by have:=HR.out;rw[HD.out,HD1.out]at this;exact this)
            obtain⟨b1,b2⟩:=okb_yes (grd_ok hg)
            have hTs:(T++s.extract (j+1) (j+1+1)).size≤j+2:=by rw[ByteArray.size_append,hx];omega
            have hwy:=grd_way _ hg
            clear HR HD HD1 h34 h92 hg Hnone Hlong Hgood
            rcases hwy with g1 | ⟨g1,g2⟩
            all_goals
             go_wp2
             go_round
             case rel=>exact⟨j+2,_,by omega,by omega,hTs,by go_num,rfl,HN⟩
             case measure=>simp[intOf];omega
        · have i2:(s.size:Int)≤(j:Int)+1:=by omega
          have HW:Hid _:=Hnone.out _ rfl (qfrom_cut h92 (by have:=HR.out;rw[HD.out,List.drop_of_length_le (by rw[hl];omega)]at this;exact this))
          clear Hnone Hlong Hgood h34 h92
          go_wp2
          refine bodyPost_ret (v:=.tuple #[.agg #[.int .i64 0,.string ⟨#[]⟩,.int .i64 0],.int .i64 0,.int .i64 1]) (by simp[results,Tryz.results47,go_sem]) rfl ⟨by rw[HW.out];rfl,hb0⟩
    · have n34:((s[j].toNat:Int) == 34)=true:=by simp at h34 ⊢; omega
      have m34:((s[j].toNat:Int) != 34)=false:=by simp at h34 ⊢; omega
      have i2:¬(s.size:Int)≤(j:Int):=by omega
      have HS:Hid (R=some (T.data.toList,j-(k+1))):=qfrom_quote h34 (by have:=HR.out;rw[HD.out]at this;exact this)
      have hTl:T.data.toList.length=T.size:=by simp
      by_cases h60:60<T.size
      · have HW:Hid _:=Hlong.out _ _ rfl HS.out (by simp only;omega)
        have i3:(60:Int)<(T.size:Int):=by omega
        clear Hnone Hlong Hgood h34
        go_wp2
        refine bodyPost_ret (v:=.tuple #[.agg #[.int .i64 0,.string ⟨#[]⟩,.int .i64 0],.int .i64 0,.int .i64 4]) (by simp[results,Tryz.results47,go_sem]) rfl ⟨by rw[HW.out];rfl,hb0⟩
      · have HW:Hid _:=Hgood.out _ _ rfl HS.out (by simp only;omega)
        have i3:¬(60:Int)<(T.size:Int):=by omega
        have hb1:Below w.heap.size w (w.alloc (.cells #[.int .i64 3,.string T,.int .i64 k] 43)):=(Below.refl _ _).alloc (Nat.le_refl _) _
        clear Hnone Hlong Hgood h34
        go_wp2
        refine bodyPost_ret (v:=.tuple #[.agg #[.int .i64 3,.string T,.int .i64 k],.int .i64 ((j:Int)+1),.int .i64 0]) (by simp[results,Tryz.results47,go_sem]) rfl ⟨?_,hb1⟩
        rw[HW.out]
        unfold refW
        simp only[]
        rw[show(k:Int)+((j-(k+1)+2:Nat):Int)=(j:Int)+1 by omega]
  · obtain rfl:j=s.size:=by omega
    have i1:¬(s.size:Int)<(s.size:Int):=by omega
    have i2:(s.size:Int)≤(s.size:Int):=by omega
    have HW:Hid _:=Hnone.out _ rfl (qfrom_end (by have:=HR.out;rw[List.drop_of_length_le (by simp)]at this;exact this))
    clear Hnone Hlong Hgood
    go_wp2
    refine bodyPost_ret (v:=.tuple #[.agg #[.int .i64 0,.string ⟨#[]⟩,.int .i64 0],.int .i64 0,.int .i64 1]) (by simp[results,Tryz.results47,go_sem]) rfl ⟨by rw[HW.out];rfl,hb0⟩
theorem dig0_zero {c d:UInt8}(r:List UInt8)(h:(c.toNat == 48)=true):dig0 (c::d::r)=dig0 (d::r):=by rw[dig0,if_pos h]
theorem dig0_stop {c d:UInt8}(r:List UInt8)(h:(c.toNat == 48)=false):dig0 (c::d::r)=c::d::r:=by rw[dig0,if_neg (by rw[h];decide)]
theorem mid (s:ByteArray)(f E:Nat):(s.extract f E).data.toList=(s.data.toList.drop f).take (E-f):=Lib.extract_data s f E
theorem mid_cons (s:ByteArray)(f E:Nat)(h:f<E)(hE:E≤s.size):(s.data.toList.drop f).take (E-f)=s[f]::(s.data.toList.drop (f+1)).take (E-(f+1)):=by
 rw[drop_at s f (by omega),show E-f=E-(f+1)+1 by omega,List.take_succ_cons]
theorem mid_nil (s:ByteArray)(f:Nat):(s.data.toList.drop f).take (f-f)=[]:=by simp
theorem ba_to {b:ByteArray}{l:List UInt8}(h:b.data.toList=l):(⟨l.toArray⟩:ByteArray)=b:=by rw[←h]
theorem size_l (b:ByteArray):b.size=b.data.toList.length:=by simp
theorem refWord_num (s:ByteArray)(k:Nat)(w:World)(hk:k<s.size)(hs:s.size≤140737488351232)(hd:digb s[k]=true):
 Calls Tryz.prog 21 #[.string s,.int .i64 k] w fun e w'=>e= .returned (refW k (wNum (s.data.toList.drop k)))∧Below w.heap.size w w':=by
 have hl:s.data.toList.length=s.size:=by simp
 have hb0:Below w.heap.size w (w.alloc (.cells #[.int .i64 0,.string ⟨#[]⟩,.int .i64 0] 43)):=(Below.refl _ _).alloc (Nat.le_refl _) _
 have ik:(k:Int)<(s.size:Int):=by omega
 have HR:=fun w=>refRun_any s k true w (by omega) (by unfold maxLen;omega)
 have hr:=runL_le (setOf true) (s.data.toList.drop k)
 have hr1:1≤runL (setOf true) (s.data.toList.drop k):=by rw[drop_at s k hk,runL_yes (show setOf true _=_ from hd)];omega
 rw[List.length_drop,hl]at hr
 have HT:Hid ((s.data.toList.drop k).takeWhile digb=(s.data.toList.drop k).take (k+runL (setOf true) (s.data.toList.drop k)-k)):=by
  show _=_;rw[Nat.add_sub_cancel_left,runL_take];rfl
 have HL:Hid (k+runL (setOf true) (s.data.toList.drop k)=k+((s.data.toList.drop k).takeWhile digb).length):=rfl
 generalize hE:k+runL (setOf true) (s.data.toList.drop k)=E at *
 have hkE:k<E:=by omega
 have hEs:E≤s.size:=by omega
 clear hr hr1 hE
 have HD0:Hid (dig0 ((s.data.toList.drop k).take (E-k))=dig0 ((s.data.toList.drop k).takeWhile digb)):=by show _=_;rw[HT.out]
 generalize hD:dig0 ((s.data.toList.drop k).takeWhile digb)=D at *
 have HD:Hid _:=hD
 clear hD
 have iE:(E:Int)≤(s.size:Int):=by omega
 go_enter Tryz.func21,Tryz.ntmps21
 go_wp2_with (first | (go_at_call 43;refine(r2Digit_any _ _).mono ?_;rintro e w' ⟨rfl,rfl⟩;rw[hd]) | (go_at_call 44;refine(HR _).mono ?_;rintro e w' ⟨rfl,rfl⟩))
 go_loop [9] (fun i=>∃f:Nat,k≤f∧f<E∧i= .int .i64 f∧Hid (dig0 ((s.data.toList.drop f).take (E-f))=D)) (fun i=>E-(intOf i).toNat)
 case atStart=>exact⟨k,Nat.le_refl _,hkE,rfl,HD0⟩
 case round=>
  clear HD0
  obtain⟨f,hkf,hfE,rfl,HF⟩:=hrel
  have jf:(f:Int)<(s.size:Int):=by omega
  by_cases hlt:f+1<E
  · have i1:(f:Int)<(E:Int)-1:=by omega
    have HM:Hid (_=_):=mid_cons s f E hfE hEs
    have HM2:Hid (_=_):=mid_cons s (f+1) E hlt hEs
    cases h48:(s[f].toNat == 48)
    · have n48:((s[f].toNat:Int) == 48)=false:=by simp at h48 ⊢; omega
      have HX:Hid ((s.extract f E).data.toList=D):=by
       have:=HF.out
       rw[HM.out,HM2.out,dig0_stop _ h48,←HM2.out,←HM.out,←mid]at this
       exact this
      have hxs:(s.extract f E).size=E-f:=by simp;omega
      by_cases h19:19<E-f
      · have HW:Hid (wNum (s.data.toList.drop k)= .error 4):=if_pos (by rw[HD.out,←HX.out,←size_l,hxs];exact h19)
        have i2:(19:Int)<(E:Int)-(f:Int):=by omega
        clear h48 HX HF HM HM2 HT HL HD
        go_wp2
        refine bodyPost_ret (v:=.tuple #[.agg #[.int .i64 0,.string ⟨#[]⟩,.int .i64 0],.int .i64 0,.int .i64 4]) (by simp[results,Tryz.results21,go_sem]) rfl ⟨by rw[HW.out];rfl,hb0⟩
      · have HW:Hid (wNum (s.data.toList.drop k)= .ok (2,D,E-k)):=by
         show _=_
         unfold wNum
         rw[HD.out,if_neg (by rw[←HX.out,←size_l,hxs];exact h19)]
         have:=HL.out
         congr 3;omega
        have i2:¬(19:Int)<(E:Int)-(f:Int):=by omega
        have i3:(f:Int)≤(E:Int):=by omega
        have hb1:Below w.heap.size w (w.alloc (.cells #[.int .i64 2,.string (s.extract f E),.int .i64 k] 43)):=(Below.refl _ _).alloc (Nat.le_refl _) _
        clear h48 HF HM HM2 HT HL HD
        go_wp2
        refine bodyPost_ret (v:=.tuple #[.agg #[.int .i64 2,.string (s.extract f E),.int .i64 k],.int .i64 E,.int .i64 0]) (by simp[results,Tryz.results21,go_sem]) rfl ⟨?_,hb1⟩
        rw[HW.out]
        unfold refW
        simp only[]
        rw[ba_to HX.out,show(k:Int)+((E-k:Nat):Int)=(E:Int) by omega]
    · have n48:((s[f].toNat:Int) == 48)=true:=by simp at h48 ⊢; omega
      have HN:Hid (dig0 ((s.data.toList.drop (f+1)).take (E-(f+1)))=D):=by
       have:=HF.out
       rw[HM.out,HM2.out,dig0_zero _ h48,←HM2.out]at this
       exact this
      clear h48 HF HM HM2
      go_wp2
      go_round
      case rel=>exact⟨f+1,by omega,by omega,by go_num,HN⟩
      case measure=>simp[intOf];omega
  · obtain rfl:E=f+1:=by omega
    have i1:¬(f:Int)<(f:Int)+1-1:=by omega
    have i0:¬(f:Int)<(f:Int):=by omega
    have HM:Hid (_=_):=mid_cons s f (f+1) hfE hEs
    have HX:Hid ((s.extract f (f+1)).data.toList=D):=by
     have:=HF.out
     rw[HM.out,mid_nil]at this
     rw[mid,HM.out,mid_nil]
     exact this
    have hxs:(s.extract f (f+1)).size=1:=by simp;omega
    have HW:Hid (wNum (s.data.toList.drop k)= .ok (2,D,f+1-k)):=by
     show _=_
     unfold wNum
     rw[HD.out,if_neg (by rw[←HX.out,←size_l,hxs];omega)]
     have:=HL.out
     congr 3;omega
    have i2:¬(19:Int)<(f:Int)+1-(f:Int):=by omega
    have i3:(f:Int)≤(f:Int)+1:=by omega
    have hb1:Below w.heap.size w (w.alloc (.cells #[.int .i64 2,.string (s.extract f (f+1)),.int .i64 k] 43)):=(Below.refl _ _).alloc (Nat.le_refl _) _
    clear HF HM HT HL HD
    go_wp2
    refine bodyPost_ret (v:=.tuple #[.agg #[.int .i64 2,.string (s.extract f (f+1)),.int .i64 k],.int .i64 ((f:Int)+1),.int .i64 0]) (by simp[results,Tryz.results21,go_sem]) rfl ⟨?_,hb1⟩
    rw[HW.out]
    unfold refW
    simp only[]
    rw[ba_to HX.out,show(k:Int)+((f+1-k:Nat):Int)=(f:Int)+1 by omega]
theorem refWord_name (s:ByteArray)(k:Nat)(w:World)(hk:k<s.size)(hs:s.size≤140737488351232)(hd:digb s[k]=false)(hlt:letb s[k]=true)(h63:(s[k].toNat == 63)=false):
 Calls Tryz.prog 21 #[.string s,.int .i64 k] w fun e w'=>e= .returned (refW k (wName 1 0 (s.data.toList.drop k)))∧Below w.heap.size w w':=by
 have hl:s.data.toList.length=s.size:=by simp
 have hb0:Below w.heap.size w (w.alloc (.cells #[.int .i64 0,.string ⟨#[]⟩,.int .i64 0] 43)):=(Below.refl _ _).alloc (Nat.le_refl _) _
 have ik:(k:Int)<(s.size:Int):=by omega
 have HR:=fun w=>refRun_any s k false w (by omega) (by unfold maxLen;omega)
 have hr:=runL_le (setOf false) (s.data.toList.drop k)
 rw[List.length_drop,hl]at hr
 have HT:Hid ((s.data.toList.drop k).takeWhile namb=(s.data.toList.drop k).take (k+runL (setOf false) (s.data.toList.drop k)-k)):=by
  show _=_;rw[Nat.add_sub_cancel_left,runL_take];rfl
 have HL:Hid (k+runL (setOf false) (s.data.toList.drop k)=k+((s.data.toList.drop k).takeWhile namb).length):=rfl
 generalize hE:k+runL (setOf false) (s.data.toList.drop k)=E at *
 have hkE:k≤E:=by omega
 have hEs:E≤s.size:=by omega
 clear hr hE
 have HX:Hid ((s.extract k E).data.toList=(s.data.toList.drop k).takeWhile namb):=by show _=_;rw[mid,HT.out]
 have hxs:(s.extract k E).size=E-k:=by simp;omega
 have iE:(E:Int)≤(s.size:Int):=by omega
 have i2:(k:Int)≤(E:Int):=by omega
 have HN:=fun w=>nameFault_any (s.extract k E) w (by rw[hxs];unfold maxLen;omega)
 rw[HX.out]at HN
 have n63:((s[k].toNat:Int) == 63)=false:=by simp at h63 ⊢; omega
 clear h63
 by_cases hf:nfault ((s.data.toList.drop k).takeWhile namb)=0
 · have HW:Hid (wName 1 0 (s.data.toList.drop k)= .ok (1,(s.data.toList.drop k).takeWhile namb,0+(E-k))):=by
    show _=_
    rw[wName_ok hf]
    have:=HL.out
    congr 3;omega
   rw[hf]at HN
   have hb1:Below w.heap.size w (w.alloc (.cells #[.int .i64 1,.string (s.extract k E),.int .i64 k] 43)):=(Below.refl _ _).alloc (Nat.le_refl _) _
   clear hf HT HL
   go_enter Tryz.func21,Tryz.ntmps21
   go_wp2_with (first | (go_at_call 43;refine(r2Digit_any _ _).mono ?_;rintro e w' ⟨rfl,rfl⟩;rw[hd]) | (go_at_call 45;refine(r2Letter_any _ _).mono ?_;rintro e w' ⟨rfl,rfl⟩;rw[hlt]) | (go_at_call 44;refine(HR _).mono ?_;rintro e w' ⟨rfl,rfl⟩) | (go_at_call 46;refine(HN _).mono ?_;rintro e w' ⟨rfl,rfl⟩))
   refine bodyPost_ret (v:=.tuple #[.agg #[.int .i64 1,.string (s.extract k E),.int .i64 k],.int .i64 E,.int .i64 0]) (by simp[results,Tryz.results21,go_sem]) rfl ⟨?_,hb1⟩
   rw[HW.out]
   unfold refW
   simp only[]
   rw[ba_to HX.out,show(k:Int)+((0+(E-k):Nat):Int)=(E:Int) by omega]
 · have HW:Hid (_=_):=wName_bad (k:=1) (m:=0) hf
   generalize nfault ((s.data.toList.drop k).takeWhile namb)=N at *
   have hf':(N != 0)=true:=by simpa using hf
   clear HT HL
   go_enter Tryz.func21,Tryz.ntmps21
   go_wp2_with (first | (go_at_call 43;refine(r2Digit_any _ _).mono ?_;rintro e w' ⟨rfl,rfl⟩;rw[hd]) | (go_at_call 45;refine(r2Letter_any _ _).mono ?_;rintro e w' ⟨rfl,rfl⟩;rw[hlt]) | (go_at_call 44;refine(HR _).mono ?_;rintro e w' ⟨rfl,rfl⟩) | (go_at_call 46;refine(HN _).mono ?_;rintro e w' ⟨rfl,rfl⟩))
   refine bodyPost_ret (v:=.tuple #[.agg #[.int .i64 0,.string ⟨#[]⟩,.int .i64 0],.int .i64 0,.int .i64 N]) (by simp[results,Tryz.results21,go_sem]) rfl ⟨by rw[HW.out];rfl,hb0⟩
theorem refWord_slot (s:ByteArray)(k:Nat)(w:World)(hk:k<s.size)(hs:s.size≤140737488351232)(hd:digb s[k]=false)(hlt:letb s[k]=false)(h63:(s[k].toNat == 63)=true):
 Calls Tryz.prog 21 #[.string s,.int .i64 k] w fun e w'=>e= .returned (refW k (wName 4 1 (s.data.toList.drop (k+1))))∧Below w.heap.size w w':=by
 have hl:s.data.toList.length=s.size:=by simp
 have hb0:Below w.heap.size w (w.alloc (.cells #[.int .i64 0,.string ⟨#[]⟩,.int .i64 0] 43)):=(Below.refl _ _).alloc (Nat.le_refl _) _
 have ik:(k:Int)<(s.size:Int):=by omega
 have HR:=fun w=>refRun_any s (k+1) false w (by omega) (by unfold maxLen;omega)
 have hr:=runL_le (setOf false) (s.data.toList.drop (k+1))
 rw[List.length_drop,hl]at hr
 have HT:Hid ((s.data.toList.drop (k+1)).takeWhile namb=(s.data.toList.drop (k+1)).take ((k+1)+runL (setOf false) (s.data.toList.drop (k+1))-(k+1))):=by
  show _=_;rw[Nat.add_sub_cancel_left,runL_take];rfl
 have HL:Hid ((k+1)+runL (setOf false) (s.data.toList.drop (k+1))=(k+1)+((s.data.toList.drop (k+1)).takeWhile namb).length):=rfl
 generalize hE:(k+1)+runL (setOf false) (s.data.toList.drop (k+1))=E at *
 have hkE:(k+1)≤E:=by omega
 have hEs:E≤s.size:=by omega
 clear hr hE
 have HX:Hid ((s.extract (k+1) E).data.toList=(s.data.toList.drop (k+1)).takeWhile namb):=by show _=_;rw[mid,HT.out]
 have hxs:(s.extract (k+1) E).size=E-(k+1):=by simp;omega
 have iE:(E:Int)≤(s.size:Int):=by omega
 have i2:(k:Int)+1≤(E:Int):=by omega
 have HN:=fun w=>nameFault_any (s.extract (k+1) E) w (by rw[hxs];unfold maxLen;omega)
 rw[HX.out]at HN
 have n63:((s[k].toNat:Int) == 63)=true:=by simp at h63 ⊢; omega
 clear h63
 by_cases hf:nfault ((s.data.toList.drop (k+1)).takeWhile namb)=0
 · have HW:Hid (wName 4 1 (s.data.toList.drop (k+1))= .ok (4,(s.data.toList.drop (k+1)).takeWhile namb,1+(E-(k+1)))):=by
    show _=_
    rw[wName_ok hf]
    have:=HL.out
    congr 3;omega
   rw[hf]at HN
   have hb1:Below w.heap.size w (w.alloc (.cells #[.int .i64 4,.string (s.extract (k+1) E),.int .i64 k] 43)):=(Below.refl _ _).alloc (Nat.le_refl _) _
   clear hf HT HL
   go_enter Tryz.func21,Tryz.ntmps21
   go_wp2_with (first | (go_at_call 43;refine(r2Digit_any _ _).mono ?_;rintro e w' ⟨rfl,rfl⟩;rw[hd]) | (go_at_call 45;refine(r2Letter_any _ _).mono ?_;rintro e w' ⟨rfl,rfl⟩;rw[hlt]) | (go_at_call 44;refine(HR _).mono ?_;rintro e w' ⟨rfl,rfl⟩) | (go_at_call 46;refine(HN _).mono ?_;rintro e w' ⟨rfl,rfl⟩))
   refine bodyPost_ret (v:=.tuple #[.agg #[.int .i64 4,.string (s.extract (k+1) E),.int .i64 k],.int .i64 E,.int .i64 0]) (by simp[results,Tryz.results21,go_sem]) rfl ⟨?_,hb1⟩
   rw[HW.out]
   unfold refW
   simp only[]
   rw[ba_to HX.out,show(k:Int)+((1+(E-(k+1)):Nat):Int)=(E:Int) by omega]
 · have HW:Hid (_=_):=wName_bad (k:=4) (m:=1) hf
   generalize nfault ((s.data.toList.drop (k+1)).takeWhile namb)=N at *
   have hf':(N != 0)=true:=by simpa using hf
   clear HT HL
   go_enter Tryz.func21,Tryz.ntmps21
   go_wp2_with (first | (go_at_call 43;refine(r2Digit_any _ _).mono ?_;rintro e w' ⟨rfl,rfl⟩;rw[hd]) | (go_at_call 45;refine(r2Letter_any _ _).mono ?_;rintro e w' ⟨rfl,rfl⟩;rw[hlt]) | (go_at_call 44;refine(HR _).mono ?_;rintro e w' ⟨rfl,rfl⟩) | (go_at_call 46;refine(HN _).mono ?_;rintro e w' ⟨rfl,rfl⟩))
   refine bodyPost_ret (v:=.tuple #[.agg #[.int .i64 0,.string ⟨#[]⟩,.int .i64 0],.int .i64 0,.int .i64 N]) (by simp[results,Tryz.results21,go_sem]) rfl ⟨by rw[HW.out];rfl,hb0⟩
theorem refWord_quo (s:ByteArray)(k:Nat)(w:World)(hk:k<s.size)(hs:s.size≤140737488351232)(hd:digb s[k]=false)(hlt:letb s[k]=false)(h63:(s[k].toNat == 63)=false)(h34:(s[k].toNat == 34)=true):
 Calls Tryz.prog 21 #[.string s,.int .i64 k] w fun e w'=>e= .returned (refW k (wQuo (s.data.toList.drop (k+1))))∧Below w.heap.size w w':=by
 have ik:(k:Int)<(s.size:Int):=by omega
 have H1:=fun w=>refQuo_any s k w hk hs
 have n63:((s[k].toNat:Int) == 63)=false:=by simp at h63 ⊢; omega
 have n34:((s[k].toNat:Int) == 34)=true:=by simp at h34 ⊢; omega
 clear h63 h34
 cases hR:wQuo (s.data.toList.drop (k+1))with
 | error n=>
   rw[hR]at H1
   unfold refW at H1 ⊢
   simp only[]at H1 ⊢
   go_enter Tryz.func21,Tryz.ntmps21
   go_wp2_with (first | (go_at_call 43;refine(r2Digit_any _ _).mono ?_;rintro e w' ⟨rfl,rfl⟩;rw[hd]) | (go_at_call 45;refine(r2Letter_any _ _).mono ?_;rintro e w' ⟨rfl,rfl⟩;rw[hlt]) | (go_at_call 47;refine(H1 _).mono ?_;rintro e w1 ⟨rfl,hb⟩;obtain⟨d0,d1,d2,f0,f1,f2,hbw⟩:=tok_kept hb))
   refine bodyPost_ret (v:=.tuple #[.agg #[.int .i64 0,.string ⟨#[]⟩,.int .i64 0],.int .i64 0,.int .i64 n]) (by simp[results,Tryz.results21,go_sem,d0,d1,d2]) rfl ⟨rfl,?_⟩
   exact((hbw.setCell (Nat.le_refl _) _).setCell (Nat.le_refl _) _).setCell (Nat.le_refl _) _
 | ok x=>
   obtain⟨kd,t,n⟩:=x
   rw[hR]at H1
   unfold refW at H1 ⊢
   simp only[]at H1 ⊢
   go_enter Tryz.func21,Tryz.ntmps21
   go_wp2_with (first | (go_at_call 43;refine(r2Digit_any _ _).mono ?_;rintro e w' ⟨rfl,rfl⟩;rw[hd]) | (go_at_call 45;refine(r2Letter_any _ _).mono ?_;rintro e w' ⟨rfl,rfl⟩;rw[hlt]) | (go_at_call 47;refine(H1 _).mono ?_;rintro e w1 ⟨rfl,hb⟩;obtain⟨d0,d1,d2,f0,f1,f2,hbw⟩:=tok_kept hb))
   refine bodyPost_ret (v:=.tuple #[.agg #[.int .i64 kd,.string ⟨t.toArray⟩,.int .i64 k],.int .i64 ((k:Int)+(n:Int)),.int .i64 0]) (by simp[results,Tryz.results21,go_sem,d0,d1,d2]) rfl ⟨rfl,?_⟩
   exact((hbw.setCell (Nat.le_refl _) _).setCell (Nat.le_refl _) _).setCell (Nat.le_refl _) _
def sg:List (List UInt8):=[[40],[41],[91],[93],[123],[125],[44],[58],[46],[58,58],[61,61],[60],[60,61],[38,38],[124,124],[33],[43],[45],[42]]
def pick1 (l acc x:List UInt8):List UInt8:=if (bgn x l && decide (acc.length<x.length))=true then x else acc
def best (l:List UInt8)(j:Nat):List UInt8:=(sg.take j).foldl (pick1 l) []
theorem best_next (l:List UInt8)(j:Nat)(h:j<19):best l (j+1)=pick1 l (best l j) (sg[j]'h):=by
 unfold best
 rw[List.take_succ_eq_append_getElem (show j<sg.length from h),List.foldl_append]
 rfl
theorem bgn_one (x c:UInt8)(r:List UInt8):bgn [x] (c::r)=(x == c):=by
 unfold bgn;simp
theorem bgn_two (x y c d:UInt8)(r:List UInt8):bgn [x,y] (c::d::r)=(x == c && y == d):=by
 unfold bgn;simp
theorem bgn_two_one (x y c:UInt8):bgn [x,y] [c]=false:=by
 unfold bgn;simp
def signOf (l:List UInt8):List UInt8:=if two (l.take 2)=true then l.take 2 else if (l.take 1).any (fun c=>shorts.contains c)=true then l.take 1 else[]
theorem best_one (c:UInt8):best [c] 19=signOf [c]:=by
 by_cases hc:shorts.contains c=true
 · unfold shorts at hc
   simp only[List.contains_cons,List.contains_nil,Bool.or_false,Bool.or_eq_true,beq_iff_eq]at hc
   rcases hc with rfl | rfl | rfl | rfl | rfl | rfl | rfl | rfl | rfl | rfl | rfl | rfl | rfl | rfl<;>rfl
 · have hn:shorts.contains c=false:=by simpa using hc
   have e2:two ([c].take 2)=false:=by
    cases e:two ([c].take 2)with
    | false=>rfl
    | true=>have:=two_len e;simp at this
   have hany:([c].take 1).any (fun c=>shorts.contains c)=false:=by show(shorts.contains c || false)=false;rw[hn];rfl
   have hs:signOf [c]=[]:=by
    unfold signOf
    rw[if_neg (by rw[e2];decide),if_neg (by rw[hany];decide)]
   rw[hs]
   unfold shorts at hn
   simp only[List.contains_cons,List.contains_nil,Bool.or_false,Bool.or_eq_false_iff]at hn
   have f:∀x:UInt8,(c == x)=false→bgn [x] [c]=false:=by
    intro x hx
    rw[bgn_one]
    cases e:(x == c)with
    | false=>rfl
    | true=>rw[beq_iff_eq.1 e]at hx;simp at hx
   unfold best sg
   obtain⟨h1,h2,h3,h4,h5,h6,h7,h8,h9,h10,h11,h12,h13,h14⟩:=hn
   simp only[List.take,List.foldl,pick1,bgn_two_one,f _ h1,f _ h2,f _ h3,f _ h4,f _ h5,f _ h6,f _ h7,f _ h8,f _ h9,f _ h10,f _ h11,f _ h12,f _ h13,f _ h14,Bool.false_and,Bool.false_eq_true,if_false]
theorem best_none (c d:UInt8)(hn:(([61,38,124]:List UInt8)++shorts).contains c=false):best [c,d] 19=signOf [c,d]:=by
 unfold shorts at hn
 simp only[List.cons_append,List.nil_append,List.contains_cons,List.contains_nil,Bool.or_false,Bool.or_eq_false_iff]at hn
 obtain⟨k1,k2,k3,h1,h2,h3,h4,h5,h6,h7,h8,h9,h10,h11,h12,h13,h14⟩:=hn
 have sw:∀x:UInt8,(c == x)=false→(x == c)=false:=by
  intro x hx
  cases e:(x == c)with
  | false=>rfl
  | true=>rw[beq_iff_eq.1 e]at hx;simp at hx
 have hany:([c,d].take 1).any (fun c=>shorts.contains c)=false:=by
  show(shorts.contains c || false)=false
  unfold shorts
  simp only[List.contains_cons,List.contains_nil,h1,h2,h3,h4,h5,h6,h7,h8,h9,h10,h11,h12,h13,h14,Bool.or_false]
 have htwo:two ([c,d].take 2)=false:=by
  show two [c,d]=false
  unfold two
  simp only[List.cons_beq_cons,h8,k1,h10,k2,k3,Bool.false_and,Bool.or_false]
 have hs:signOf [c,d]=[]:=by
  unfold signOf
  rw[if_neg (by rw[htwo];decide),if_neg (by rw[hany];decide)]
 rw[hs]
 unfold best sg
 simp only[List.take,List.foldl,pick1,bgn_one,bgn_two,sw _ k1,sw _ k2,sw _ k3,sw _ h1,sw _ h2,sw _ h3,sw _ h4,sw _ h5,sw _ h6,sw _ h7,sw _ h8,sw _ h9,sw _ h10,sw _ h11,sw _ h12,sw _ h13,sw _ h14,Bool.false_and,Bool.false_eq_true,if_false]
theorem best_tail (c d:UInt8)(hd:(d == 58)=false∧(d == 61)=false∧(d == 38)=false∧(d == 124)=false):best [c,d] 19=signOf [c,d]:=by
 obtain⟨d1,d2,d3,d4⟩:=hd
 have sw:∀x:UInt8,(d == x)=false→(x == d)=false:=by
  intro x hx
  cases e:(x == d)with
  | false=>rfl
  | true=>rw[beq_iff_eq.1 e]at hx;simp at hx
 have e2:signOf [c,d]=signOf [c]:=by
  unfold signOf two
  simp[d1,d2,d3,d4]
 have e1:best [c,d] 19=best [c] 19:=by
  unfold best sg
  simp only[List.take,List.foldl,pick1,bgn_one,bgn_two,bgn_two_one,sw _ d1,sw _ d2,sw _ d3,sw _ d4,Bool.and_false,Bool.false_and,Bool.false_eq_true,if_false]
 rw[e1,e2,best_one]
theorem best_two (c d:UInt8)(r:List UInt8):best (c::d::r) 19=signOf (c::d::r):=by
 have g:best (c::d::r) 19=best [c,d] 19:=by
  unfold best
  have:∀(L:List (List UInt8)) (acc:List UInt8),(∀x∈L,x.length≤2)→L.foldl (pick1 (c::d::r)) acc=L.foldl (pick1 [c,d]) acc:=by
   intro L
   induction L with
   | nil=>intro acc _;rfl
   | cons x L ih=>
     intro acc h
     rw[List.foldl_cons,List.foldl_cons]
     have hx:=h x (by simp)
     have e:pick1 (c::d::r) acc x=pick1 [c,d] acc x:=by
      unfold pick1
      have:bgn x (c::d::r)=bgn x [c,d]:=by
       unfold bgn
       congr 1
       match x,hx with
       | [],_=>rfl
       | [a],_=>rfl
       | [a,b],_=>rfl
      rw[this]
     rw[e]
     exact ih _ (fun y hy=>h y (by simp[hy]))
  exact this _ _ (by decide)
 rw[g]
 have s2:signOf (c::d::r)=signOf [c,d]:=rfl
 rw[s2]
 by_cases hd:d=58∨d=61∨d=38∨d=124
 · by_cases hc:(([61,38,124]:List UInt8)++shorts).contains c=true
   · unfold shorts at hc
     simp only[List.cons_append,List.nil_append,List.contains_cons,List.contains_nil,Bool.or_false,Bool.or_eq_true,beq_iff_eq]at hc
     rcases hd with rfl | rfl | rfl | rfl<;>rcases hc with rfl | rfl | rfl | rfl | rfl | rfl | rfl | rfl | rfl | rfl | rfl | rfl | rfl | rfl | rfl | rfl | rfl<;>rfl
   · have hn:(([61,38,124]:List UInt8)++shorts).contains c=false:=by simpa using hc
     exact best_none c d hn
 · have hd2:(d == 58)=false∧(d == 61)=false∧(d == 38)=false∧(d == 124)=false:=by
    refine⟨?_,?_,?_,?_⟩<;>(simp only[beq_eq_false_iff_ne,ne_eq];intro e;apply hd;simp[e])
   exact best_tail c d hd2
theorem sign_tab:∀(j:Nat) (h:j<19),∃a b:UInt8,((⟨#[40,32,32,41,32,32,91,32,32,93,32,32,123,32,32,125,32,32,44,32,32,58,32,32,46,32,32,58,58,32,61,61,32,60,32,32,60,61,32,38,38,32,124,124,32,33,32,32,43,32,32,45,32,32,42,32,32]⟩:ByteArray).extract (3*j) (3*j+2)).data.toList=[a,b]∧(((b.toNat == 32)=true∧sg[j]'h=[a])∨((b.toNat == 32)=false∧sg[j]'h=[a,b]))
 | 0,_=>⟨40,32,by rw[Lib.extract_data];rfl,.inl ⟨rfl,rfl⟩⟩
 | 1,_=>⟨41,32,by rw[Lib.extract_data];rfl,.inl ⟨rfl,rfl⟩⟩
 | 2,_=>⟨91,32,by rw[Lib.extract_data];rfl,.inl ⟨rfl,rfl⟩⟩
 | 3,_=>⟨93,32,by rw[Lib.extract_data];rfl,.inl ⟨rfl,rfl⟩⟩
 | 4,_=>⟨123,32,by rw[Lib.extract_data];rfl,.inl ⟨rfl,rfl⟩⟩
 | 5,_=>⟨125,32,by rw[Lib.extract_data];rfl,.inl ⟨rfl,rfl⟩⟩
 | 6,_=>⟨44,32,by rw[Lib.extract_data];rfl,.inl ⟨rfl,rfl⟩⟩
 | 7,_=>⟨58,32,by rw[Lib.extract_data];rfl,.inl ⟨rfl,rfl⟩⟩
 | 8,_=>⟨46,32,by rw[Lib.extract_data];rfl,.inl ⟨rfl,rfl⟩⟩
 | 9,_=>⟨58,58,by rw[Lib.extract_data];rfl,.inr ⟨rfl,rfl⟩⟩
 | 10,_=>⟨61,61,by rw[Lib.extract_data];rfl,.inr ⟨rfl,rfl⟩⟩
 | 11,_=>⟨60,32,by rw[Lib.extract_data];rfl,.inl ⟨rfl,rfl⟩⟩
 | 12,_=>⟨60,61,by rw[Lib.extract_data];rfl,.inr ⟨rfl,rfl⟩⟩
 | 13,_=>⟨38,38,by rw[Lib.extract_data];rfl,.inr ⟨rfl,rfl⟩⟩
 | 14,_=>⟨124,124,by rw[Lib.extract_data];rfl,.inr ⟨rfl,rfl⟩⟩
 | 15,_=>⟨33,32,by rw[Lib.extract_data];rfl,.inl ⟨rfl,rfl⟩⟩
 | 16,_=>⟨43,32,by rw[Lib.extract_data];rfl,.inl ⟨rfl,rfl⟩⟩
 | 17,_=>⟨45,32,by rw[Lib.extract_data];rfl,.inl ⟨rfl,rfl⟩⟩
 | 18,_=>⟨42,32,by rw[Lib.extract_data];rfl,.inl ⟨rfl,rfl⟩⟩
 | j+19,h=>absurd h (by omega)
theorem wSign_of {l:List UInt8}(h:l≠[]):wSign l=if signOf l=[]then .error 1 else .ok (5,signOf l,(signOf l).length):=by
 obtain⟨c,r,rfl⟩:=List.exists_cons_of_ne_nil h
 unfold wSign signOf
 by_cases h2:two ((c::r).take 2)=true
 · have hl:=two_len h2
   rw[if_pos h2,if_pos h2]
   have hlen:((c::r).take 2).length=2:=by rw[List.length_take];omega
   rw[if_neg (by intro e;rw[e]at hlen;simp at hlen),hlen]
 · rw[if_neg h2,if_neg h2]
   by_cases h1:((c::r).take 1).any (fun c=>shorts.contains c)=true
   · rw[if_pos h1,if_pos h1]
     simp
   · rw[if_neg h1,if_neg h1];simp
theorem best_sign {l:List UInt8}(h:l≠[]):best l 19=signOf l:=by
 match l,h with
 | [c],_=>exact best_one c
 | c::d::r,_=>exact best_two c d r
theorem best_small (l:List UInt8):∀j,(best l j).length≤2:=by
 intro j
 unfold best
 have:∀(L:List (List UInt8)) (acc:List UInt8),(∀x∈L,x.length≤2)→acc.length≤2→(L.foldl (pick1 l) acc).length≤2:=by
  intro L
  induction L with
  | nil=>intro acc _ h;exact h
  | cons x L ih=>
    intro acc h ha
    rw[List.foldl_cons]
    apply ih _ (fun y hy=>h y (by simp[hy]))
    unfold pick1
    split
    · exact h x (by simp)
    · exact ha
 refine this _ _ (fun x hx=>?_) (by simp)
 have hx':=List.mem_of_mem_take hx
 have:∀x∈sg,x.length≤2:=by decide
 exact this x hx'
theorem pick1_yes {l acc x:List UInt8}(h1:bgn x l=true)(h2:acc.length<x.length):pick1 l acc x=x:=by
 unfold pick1;rw[h1,decide_eq_true h2];rfl
theorem pick1_no {l acc x:List UInt8}(h1:bgn x l=false):pick1 l acc x=acc:=by
 unfold pick1;rw[h1];rfl
theorem pick1_less {l acc x:List UInt8}(h2:¬acc.length<x.length):pick1 l acc x=acc:=by
 unfold pick1;rw[decide_eq_false h2,Bool.and_false];rfl
theorem byte_at {x:ByteArray}{a b:UInt8}(h:x.data.toList=[a,b])(h1:1<x.size):x[1]=b:=by
 have:=of_list h
 subst this
 rfl
theorem refWord_sign (s:ByteArray)(k:Nat)(w:World)(hk:k<s.size)(hs:s.size≤140737488351232)(hd:digb s[k]=false)(hlt:letb s[k]=false)(h63:(s[k].toNat == 63)=false)(h34:(s[k].toNat == 34)=false):
 Calls Tryz.prog 21 #[.string s,.int .i64 k] w fun e w'=>e= .returned (refW k (wSign (s.data.toList.drop k)))∧Below w.heap.size w w':=by
 have ik:(k:Int)<(s.size:Int):=by omega
 have hne:s.data.toList.drop k≠[]:=by rw[drop_at s k hk];simp
 have HW:Hid (_=_):=wSign_of hne
 have HB:Hid (_=_):=best_sign hne
 have n63:((s[k].toNat:Int) == 63)=false:=by simp at h63 ⊢; omega
 have n34:((s[k].toNat:Int) == 34)=false:=by simp at h34 ⊢; omega
 have HBG:=fun(x:ByteArray) (w:World) (hx:x.size≤1000)=>begins_any s x k w (by omega) (by unfold maxLen;omega) hx
 generalize s.data.toList.drop k=l at *
 clear h63 h34 hne
 have HTAB:Hid (∀(j:Nat) (h:j<19),∃a b:UInt8,((⟨#[40,32,32,41,32,32,91,32,32,93,32,32,123,32,32,125,32,32,44,32,32,58,32,32,46,32,32,58,58,32,61,61,32,60,32,32,60,61,32,38,38,32,124,124,32,33,32,32,43,32,32,45,32,32,42,32,32]⟩:ByteArray).extract (3*j) (3*j+2)).data.toList=[a,b]∧(((b.toNat == 32)=true∧sg[j]'h=[a])∨((b.toNat == 32)=false∧sg[j]'h=[a,b]))):=sign_tab
 have hSs:(⟨#[40,32,32,41,32,32,91,32,32,93,32,32,123,32,32,125,32,32,44,32,32,58,32,32,46,32,32,58,58,32,61,61,32,60,32,32,60,61,32,38,38,32,124,124,32,33,32,32,43,32,32,45,32,32,42,32,32]⟩:ByteArray).size=57:=rfl
 have hb0:Below w.heap.size w (w.alloc (.cells #[.int .i64 0,.string ⟨#[]⟩,.int .i64 0] 43)):=(Below.refl _ _).alloc (Nat.le_refl _) _
 go_enter Tryz.func21,Tryz.ntmps21
 go_wp2_with (first | (go_at_call 43;refine(r2Digit_any _ _).mono ?_;rintro e w' ⟨rfl,rfl⟩;rw[hd]) | (go_at_call 45;refine(r2Letter_any _ _).mono ?_;rintro e w' ⟨rfl,rfl⟩;rw[hlt]))
 generalize (⟨#[40,32,32,41,32,32,91,32,32,93,32,32,123,32,32,125,32,32,44,32,32,58,32,32,46,32,32,58,58,32,61,61,32,60,32,32,60,61,32,38,38,32,124,124,32,33,32,32,43,32,32,45,32,32,42,32,32]⟩:ByteArray)=S at *
 have hSs2:S.size=57:=hSs
 go_loopw [15,16] (fun fv iv wr=>∃(j n:Nat) (F:ByteArray) (m:Nat),j≤19∧F.size≤2∧Hid (m=3*j)∧iv= .int .i64 m∧fv= .string F∧wr=(w.alloc (.cells #[.int .i64 0,.string ⟨#[]⟩,.int .i64 0] 43)).drewN n∧Hid (F.data.toList=best l j)) (fun _ iv _=>57-(intOf iv).toNat)
 case atStart=>exact⟨0,0,⟨#[]⟩,0,by omega,Nat.zero_le _,rfl,rfl,rfl,rfl,rfl⟩
 case round=>
  obtain⟨j,n,F,m,hj,hF2,HM,rfl,rfl,rfl,HF⟩:=hrel
  by_cases hlt2:j<19
  · obtain⟨a,b,hab,hc⟩:=HTAB.out j hlt2
    have HX:Hid (_=_):=best_next l j hlt2
    rw[←HM.out]at hab
    have HJ:Hid (m+3=3*(j+1)):=by have:=HM.out;show _=_;omega
    have hjm:m≤54:=by have:=HM.out;omega
    have i1:(m:Int)<57:=by omega
    have i2:(m:Int)+2≤57:=by omega
    have i3:(0:Int)≤(m:Int)+2:=by omega
    have i4:(m:Int)≤(m:Int)+2:=by omega
    generalize sg[j]'hlt2=Z at *
    generalize hXX:S.extract m (m+2)=X at hab
    have hxs:X.size=2:=by rw[size_l,hab];rfl
    have hx1:=byte_at hab (by omega)
    rcases hc with⟨hb,hz⟩ | ⟨hb,hz⟩
    · have hb2:(((X[1]'(by omega)).toNat:Int) == 32)=true:=by rw[hx1];simp at hb ⊢; omega
      have HY:Hid ((X.extract 0 1).data.toList=Z):=by show _=_;rw[head_take,hab,hz];rfl
      have hys:(X.extract 0 1).size=1:=by rw[size_l,HY.out,hz];rfl
      have i6:(1:Int)≤(X.size:Int):=by omega
      clear hz hab hx1 hb
      generalize hYY:X.extract 0 1=Y at *
      cases hbg:bgn Y.data.toList l
      · have HN:Hid (F.data.toList=best l (j+1)):=by show _=_;rw[HX.out,←HY.out,pick1_no hbg];exact HF.out
        go_wp2_with (go_at_call 48;refine(HBG _ _ (by omega)).mono ?_;rintro e w' ⟨rfl,n2,rfl⟩;rw[hbg])
        go_roundw
        case rel=>exact⟨j+1,n+n2,F,m+3,by omega,by omega,HJ,by go_num,rfl,rfl,HN⟩
        case measure=>simp[intOf];omega
      · by_cases hgt:F.size<Y.size
        · have HN:Hid (Y.data.toList=best l (j+1)):=by show _=_;rw[HX.out,←HY.out,pick1_yes hbg (by rw[←HF.out,←size_l,←size_l];exact hgt)]
          have i5:(F.size:Int)<(Y.size:Int):=by omega
          go_wp2_with (go_at_call 48;refine(HBG _ _ (by omega)).mono ?_;rintro e w' ⟨rfl,n2,rfl⟩;rw[hbg])
          go_roundw
          case rel=>exact⟨j+1,n+n2,Y,m+3,by omega,by omega,HJ,by go_num,rfl,rfl,HN⟩
          case measure=>simp[intOf];omega
        · have HN:Hid (F.data.toList=best l (j+1)):=by show _=_;rw[HX.out,←HY.out,pick1_less (by rw[←HF.out,←size_l,←size_l];exact hgt)];exact HF.out
          have i5:¬(F.size:Int)<(Y.size:Int):=by omega
          go_wp2_with (go_at_call 48;refine(HBG _ _ (by omega)).mono ?_;rintro e w' ⟨rfl,n2,rfl⟩;rw[hbg])
          go_roundw
          case rel=>exact⟨j+1,n+n2,F,m+3,by omega,by omega,HJ,by go_num,rfl,rfl,HN⟩
          case measure=>simp[intOf];omega
    · have hb2:(((X[1]'(by omega)).toNat:Int) == 32)=false:=by rw[hx1];simp at hb ⊢; omega
      have HY:Hid (X.data.toList=Z):=by show _=_;rw[hab,hz]
      clear hz hab hx1 hb
      cases hbg:bgn X.data.toList l
      · have HN:Hid (F.data.toList=best l (j+1)):=by show _=_;rw[HX.out,←HY.out,pick1_no hbg];exact HF.out
        go_wp2_with (go_at_call 48;refine(HBG _ _ (by omega)).mono ?_;rintro e w' ⟨rfl,n2,rfl⟩;rw[hbg])
        go_roundw
        case rel=>exact⟨j+1,n+n2,F,m+3,by omega,by omega,HJ,by go_num,rfl,rfl,HN⟩
        case measure=>simp[intOf];omega
      · by_cases hgt:F.size<X.size
        · have HN:Hid (X.data.toList=best l (j+1)):=by show _=_;rw[HX.out,←HY.out,pick1_yes hbg (by rw[←HF.out,←size_l,←size_l];exact hgt)]
          have i5:(F.size:Int)<(X.size:Int):=by omega
          go_wp2_with (go_at_call 48;refine(HBG _ _ (by omega)).mono ?_;rintro e w' ⟨rfl,n2,rfl⟩;rw[hbg])
          go_roundw
          case rel=>exact⟨j+1,n+n2,X,m+3,by omega,by omega,HJ,by go_num,rfl,rfl,HN⟩
          case measure=>simp[intOf];omega
        · have HN:Hid (F.data.toList=best l (j+1)):=by show _=_;rw[HX.out,←HY.out,pick1_less (by rw[←HF.out,←size_l,←size_l];exact hgt)];exact HF.out
          have i5:¬(F.size:Int)<(X.size:Int):=by omega
          go_wp2_with (go_at_call 48;refine(HBG _ _ (by omega)).mono ?_;rintro e w' ⟨rfl,n2,rfl⟩;rw[hbg])
          go_roundw
          case rel=>exact⟨j+1,n+n2,F,m+3,by omega,by omega,HJ,by go_num,rfl,rfl,HN⟩
          case measure=>simp[intOf];omega
  · obtain rfl:j=19:=by omega
    obtain rfl:m=57:=HM.out
    have hft:F.toList=F.data.toList:=ByteArray.toList_eq F
    have HS:Hid (F.data.toList=signOf l):=HF.out.trans HB.out
    by_cases he:F.size=0
    · have hnil:F.data.toList=[]:=List.eq_nil_of_length_eq_zero (by rw[←size_l];exact he)
      have e0:(F.toList == [])=true:=by rw[hft,hnil];rfl
      have HW2:Hid (wSign l= .error 1):=by
       show _=_;rw[HW.out,if_pos (by rw[←HS.out];exact hnil)]
      clear hft HTAB hnil
      go_wp2
      refine bodyPost_ret (v:=.tuple #[.agg #[.int .i64 0,.string ⟨#[]⟩,.int .i64 0],.int .i64 0,.int .i64 1]) (by simp[results,Tryz.results21,go_sem]) rfl ⟨by rw[HW2.out];rfl,?_⟩
      exact(((below_draws hb0 n).setCell (Nat.le_refl _) _).setCell (Nat.le_refl _) _).setCell (Nat.le_refl _) _
    · have hnn:F.data.toList≠[]:=by intro h;apply he;rw[size_l,h];rfl
      have e0:(F.toList == [])=false:=by rw[hft];cases e:(F.data.toList == [])with | false=>rfl | true=>exact absurd (by simpa using e) hnn
      have HW2:Hid (wSign l= .ok (5,F.data.toList,F.size)):=by
       show _=_;rw[HW.out,if_neg (by rw[←HS.out];exact hnn),←HS.out,←size_l]
      clear hft HTAB
      go_wp2
      refine bodyPost_ret (v:=.tuple #[.agg #[.int .i64 5,.string F,.int .i64 k],.int .i64 ((k:Int)+(F.size:Int)),.int .i64 0]) (by simp[results,Tryz.results21,go_sem]) rfl ⟨?_,?_⟩
      · rw[HW2.out]
        rfl
      · exact(((below_draws hb0 n).setCell (Nat.le_refl _) _).setCell (Nat.le_refl _) _).setCell (Nat.le_refl _) _
theorem let_63 {c:UInt8}(h:letb c=true):(c.toNat == 63)=false:=by
 have:=let_not h
 simp only[Bool.or_eq_false_iff]at this
 exact this.2
theorem qm_34 {c:UInt8}(h:(c.toNat == 63)=true):(c.toNat == 34)=false:=by simp at h ⊢; omega
theorem refWord_any (s:ByteArray)(k:Nat)(w:World)(hk:k<s.size)(hs:s.size≤140737488351232):
 Calls Tryz.prog 21 #[.string s,.int .i64 k] w fun e w'=>e= .returned (refW k (word1 (s.data.toList.drop k)))∧Below w.heap.size w w':=by
 have hD:=drop_at s k hk
 have hD1:s.data.toList.drop (k+1)=(s.data.toList.drop k).drop 1:=by rw[List.drop_drop]
 rw[hD,word1_cons]
 cases h1:letb s[k]
 · rw[if_neg (by decide)]
   cases h2:digb s[k]
   · rw[if_neg (by decide)]
     cases h3:(s[k].toNat == 34)
     · rw[if_neg (by decide)]
       cases h4:(s[k].toNat == 63)
       · rw[if_neg (by decide),←hD]
         exact refWord_sign s k w hk hs h2 h1 h4 h3
       · rw[if_pos rfl]
         exact refWord_slot s k w hk hs h2 h1 h4
     · rw[if_pos rfl]
       have h4:(s[k].toNat == 63)=false:=by
        cases e:(s[k].toNat == 63)with
        | false=>rfl
        | true=>rw[qm_34 e]at h3;cases h3
       exact refWord_quo s k w hk hs h2 h1 h4 h3
   · rw[if_pos rfl,←hD]
     exact refWord_num s k w hk hs h2
 · rw[if_pos rfl,←hD]
   have h2:digb s[k]=false:=by
    cases e:digb s[k]with
    | false=>rfl
    | true=>rw[dig_let e]at h1;cases h1
   exact refWord_name s k w hk hs h2 h1 (let_63 h1)
theorem nf_ne {l:List UInt8}(h:nfault l≠0):(nfault l == 0)=false:=by simpa using h
theorem word1_err {l:List UInt8}{n:Int}(h:word1 l= .error n):(n == 0)=false:=by
 cases l with
 | nil=>injection h with h;subst h;rfl
 | cons c r=>
   rw[word1_cons]at h
   split at h
   · unfold wName at h
     split at h
     · cases h
     · rename_i h1;injection h with h;subst h;exact nf_ne h1
   · split at h
     · unfold wNum at h
       split at h
       · injection h with h;subst h;rfl
       · cases h
     · split at h
       · unfold wQuo at h
         cases e:qsc false r with
         | none=>rw[e]at h;injection h with h;subst h;rfl
         | some y=>
           rw[e]at h
           simp only at h
           split at h
           · injection h with h;subst h;rfl
           · cases h
       · split at h
         · unfold wName at h
           split at h
           · cases h
           · rename_i h1;injection h with h;subst h;exact nf_ne h1
         · unfold wSign at h
           split at h
           · cases h
           · split at h
             · cases h
             · injection h with h;subst h;rfl
def WordsPost (N:Nat)(R:Except (Int×Nat) (List Tk))(e:Ending)(w':World):Prop:=
 match R with
 | .ok ts=>∃q c,e= .returned (.tuple #[.slice q ts.length c,.int .i64 0,.int .i64 0])∧TKL w' q ts∧ts.length≤c∧c≤maxLen∧∀a,q=some a→N≤a.block
 | .error x=>e= .returned (.tuple #[.slice none 0 0,.int .i64 x.2,.int .i64 x.1])
set_option maxRecDepth 100000 in
theorem words_any (s:ByteArray)(w:World)(hs:s.size≤maxLen):
 Calls Tryz.prog 12 #[.string s] w fun e w'=>WordsPost w.heap.size (readL s.data.toList) e w'∧Below w.heap.size w w':=by
 have hl:s.data.toList.length=s.size:=by simp
 unfold maxLen at hs
 by_cases h9:900<s.size
 · have HF:Hid (readL s.data.toList= .error (4,0)):=if_pos (by omega)
   have h':(900:Int)<(s.size:Int):=by omega
   go_enter Tryz.func12,Tryz.ntmps12
   go_wp2
   go_ret3
   exact⟨by rw[HF.out];rfl,Below.refl _ _⟩
 · have h':¬(900:Int)<(s.size:Int):=by omega
   have HF:readL s.data.toList=wds s.data.toList [] 0:=if_neg (by omega)
   rw[HF]
   generalize hR:wds s.data.toList [] 0=R
   have HR:Hid (wds (s.data.toList.drop 0) [] 0=R):=by rw[List.drop_zero];exact hR
   clear hR HF
   go_enter Tryz.func12,Tryz.ntmps12
   go_wp2
   go_loopw [5,6] (fun v i wr=>∃(k:Nat) (acc:List Tk),k≤s.size∧i= .int .i64 k∧OTk wr w.heap.size v acc∧Hid (acc.length≤300)∧Below w.heap.size w wr∧Hid (wds (s.data.toList.drop k) acc k=R)) (fun _ i _=>s.size-(intOf i).toNat)
   case atStart=>exact⟨0,[],Nat.zero_le _,rfl,OTk.nil _ _,Nat.zero_le _,Below.refl _ _,HR⟩
   case round=>
    clear HR
    obtain⟨k,acc,hk,rfl,hown,HA,hb,HR⟩:=hrel
    have hal:acc.length≤300:=HA.out
    by_cases hlt:k<s.size
    · have i1:(k:Int)<(s.size:Int):=by omega
      have hD:=drop_at s k hlt
      cases h32:(s[k].toNat == 32)
      · have n32:((s[k].toNat:Int) == 32)=false:=by simp at h32 ⊢; omega
        have H1:=fun w=>refWord_any s k w hlt (by omega)
        cases hw:word1 (s.data.toList.drop k)with
        | error n=>
          rw[hw]at H1
          unfold refW at H1
          simp only[]at H1
          have hn0:(n == 0)=false:=word1_err hw
          have hn1:(n != 0)=true:=by simpa using hn0
          have HN:Hid (R= .error (n,k)):=by
           have:=HR.out
           rw[hD]at hw
           rw[hD,wds_bad h32 hw]at this
           exact this.symm
          clear hw hD HR h32
          go_wp2_with fail
          refine(H1 _).mono ?_
          rintro e w2 ⟨rfl,hb2⟩
          have hb3:=hb.trans (hb2.mono hb.size)
          have hb4:=hb3.alloc hb3.size (.cells #[.int .i64 0,.string ⟨#[]⟩,.int .i64 0] 43)
          go_wp2
          go_ret3
          exact⟨by rw[HN.out];rfl,hb4⟩
        | ok x=>
          obtain⟨kd,t,n⟩:=x
          rw[hw]at H1
          unfold refW at H1
          simp only[]at H1
          obtain⟨n1,n2⟩:=word1_size hw
          rw[List.length_drop,hl]at n2
          simp only at n1 n2
          by_cases hf:300≤acc.length
          · have HN:Hid (R= .error (4,k)):=by
             have:=HR.out
             rw[hD]at hw
             rw[hD,wds_full h32 hw hf]at this
             exact this.symm
            have i2:(300:Int)≤(acc.length:Int):=by omega
            clear hw hD HR h32
            obtain⟨q,cp,rfl,_⟩:=hown.slice
            go_wp2_with fail
            refine(H1 _).mono ?_
            rintro e w2 ⟨rfl,hb2⟩
            have hb3:=hb.trans (hb2.mono hb.size)
            have hb4:=hb3.alloc hb3.size (.cells #[.int .i64 kd,.string ⟨t.toArray⟩,.int .i64 k] 43)
            go_wp2
            go_ret3
            exact⟨by rw[HN.out];rfl,hb4⟩
          · have HN:Hid (wds (s.data.toList.drop (k+n)) (acc++[mkT kd t k]) (k+n)=R):=by
             have:=HR.out
             rw[hD]at hw
             rw[hD,wds_word h32 hw hf]at this
             simp only at this
             rw[List.drop_drop,show k+1+(n-1)=k+n by omega]at this
             exact this
            have i2:¬(300:Int)≤(acc.length:Int):=by omega
            have HA2:Hid ((acc++[mkT kd t k]).length≤300):=by show _≤_;simp;omega
            clear hw hD HR h32
            obtain⟨q,cp,rfl,_⟩:=hown.slice
            go_wp2_with fail
            refine(H1 _).mono ?_
            rintro e w2 ⟨rfl,hb2⟩
            have hb3:=hb.trans (hb2.mono hb.size)
            have hb4:=hb3.alloc hb3.size (.cells #[.int .i64 kd,.string ⟨t.toArray⟩,.int .i64 k] 43)
            have hown2:=(hown.below hb2).below ((Below.refl _ _).alloc (Nat.le_refl _) (.cells #[.int .i64 kd,.string ⟨t.toArray⟩,.int .i64 k] 43))
            have Hz:Hid ((w2.alloc (.cells #[.int .i64 kd,.string ⟨t.toArray⟩,.int .i64 k] 43)).heap.size=w2.heap.size+1):=by show _=_;simp
            have Hz2:Hid _:=hb4.size
            go_wp2_with (at_builtin;refine append_tok (w2.alloc (.cells #[.int .i64 kd,.string ⟨t.toArray⟩,.int .i64 k] 43)) rfl (.tmp 41) (.tmp 43) rfl w.heap.size (.slice q acc.length cp) acc rfl hown2 (mkT kd t k) (by rw[Hz.out];rfl) (by omega) Hz2.out ?_;intro v' w4 hown4 hb5)
            go_roundw
            case rel=>exact⟨k+n,_,by omega,by go_num,hown4,HA2,hb4.trans hb5,HN⟩
            case measure=>simp[intOf];omega
      · have n32:((s[k].toNat:Int) == 32)=true:=by simp at h32 ⊢; omega
        have HN:Hid (wds (s.data.toList.drop (k+1)) acc (k+1)=R):=by
         have:=HR.out
         rw[hD,wds_blank h32]at this
         exact this
        clear hD HR h32
        go_wp2
        go_roundw
        case rel=>exact⟨k+1,acc,by omega,by go_num,hown,HA,hb,HN⟩
        case measure=>simp[intOf];omega
    · obtain rfl:k=s.size:=by omega
      have i1:¬(s.size:Int)<(s.size:Int):=by omega
      have HN:Hid (R= .ok acc):=by
       have:=HR.out
       rw[List.drop_of_length_le (by simp),wds_nil]at this
       exact this.symm
      obtain⟨q,cp,rfl,hrest⟩:=hown.slice
      go_wp2
      go_ret3
      exact⟨by rw[HN.out];exact⟨_,_,rfl,hrest⟩,hb⟩
end Go.Proofs.YtgbljlabifpmgaaGreatDoor
