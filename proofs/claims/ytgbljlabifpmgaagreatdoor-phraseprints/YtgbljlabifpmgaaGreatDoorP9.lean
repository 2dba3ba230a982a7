import Derived.Test.YtgbljlabifpmgaaGreatDoorP8
import Derived.Test.YtgbljlabifpmgaaGreatDoorP1
import Derived.Deep.QuietTactic
import Derived.Laws.StructEq
set_option linter.unusedVariables false
set_option maxHeartbeats 12000000
namespace Go.Proofs.YtgbljlabifpmgaaGreatDoor
open Go.RowKit
theorem map_next {L:List Tk}{k:Nat}(h:k<L.length):(L.take (k+1)).map at0=(L.take k).map at0++[at0 L[k]]:=by
 rw[List.take_succ_eq_append_getElem h,List.map_append];rfl
def BareRet (L:List Tk)(n:Nat)(e:Ending)(w':World):Prop:=∃q' c',e= .returned (.slice q' n c')∧TKL w' q' (L.map at0)
def BareC (L:List Tk)(n:Nat)(e:Ending)(w':World):Prop:=∃q' c',e= .returned (.slice q' n c')∧TKL w' q' (L.map at0)∧n≤c'∧c'≤maxLen
set_option maxRecDepth 100000 in
theorem bare_c (L:List Tk)(n:Nat)(q:Option Addr)(c:Nat)(w:World)(hv:TKL w q L)(hn:L.length=n)(h3:n≤300):
 Calls Tryz.prog 13 #[.slice q n c] w fun e w'=>BareC L n e w'∧Below w.heap.size w w':=by
 subst hn
 go_enter Tryz.func13,Tryz.ntmps13
 go_wp2
 go_loopw [3,4] (fun v i wr=>∃k:Nat,k≤L.length∧i= .int .i64 k∧OTk wr w.heap.size v ((L.take k).map at0)∧Below w.heap.size w wr) (fun _ i _=>L.length-(intOf i).toNat)
 case atStart=>exact⟨0,Nat.zero_le _,rfl,OTk.nil _ _,Below.refl _ _⟩
 case round=>
  obtain⟨k,hk,rfl,hown,hb⟩:=hrel
  have hlm:((L.take k).map at0).length=k:=by rw[List.length_map,List.length_take];omega
  by_cases hlt:k<L.length
  · have i1:(k:Int)<(L.length:Int):=by omega
    obtain⟨b,off,rfl,hbw,c0,c1,c2⟩:=(hv.up hb).at hlt
    have HM:Hid (_=_):=map_next hlt
    generalize L[k]=t at *
    generalize (L.take k).map at0=acc at *
    have hb2:=hb.alloc hb.size (.cells #[.int .i64 t.kind,.string t.s,.int .i64 0] 43)
    have hown2:=hown.below ((Below.refl _ _).alloc (Nat.le_refl _) (.cells #[.int .i64 t.kind,.string t.s,.int .i64 0] 43))
    have Hz:Hid ((wr.alloc (.cells #[.int .i64 t.kind,.string t.s,.int .i64 0] 43)).heap.size=wr.heap.size+1):=by show _=_;simp
    have Hz2:Hid _:=hb2.size
    go_wp2_with (at_builtin;refine append_tok (wr.alloc (.cells #[.int .i64 t.kind,.string t.s,.int .i64 0] 43)) rfl (.tmp 17) (.tmp 19) rfl w.heap.size u3 acc rfl hown2 (at0 t) (by rw[Hz.out];rfl) (by omega) Hz2.out ?_;intro v' w4 hown4 hb5)
    go_roundw
    case rel=>exact⟨k+1,by omega,by go_num,by rw[HM.out];exact hown4,hb2.trans hb5⟩
    case measure=>simp[intOf];omega
  · obtain rfl:k=L.length:=by omega
    have i1:¬(L.length:Int)<(L.length:Int):=by omega
    have HT:Hid ((L.take L.length).map at0=L.map at0):=by show _=_;rw[List.take_of_length_le (Nat.le_refl _)]
    obtain⟨q',cp,rfl,hk',hc1,hc2,_⟩:=hown.slice
    rw[hlm]at hc1
    rw[hlm]
    rw[HT.out]at hk'
    go_wp2
    go_ret
    exact⟨⟨_,_,rfl,hk',hc1,hc2⟩,hb⟩
theorem bare_any (L:List Tk)(n:Nat)(q:Option Addr)(c:Nat)(w:World)(hv:TKL w q L)(hn:L.length=n)(h3:n≤300):
 Calls Tryz.prog 13 #[.slice q n c] w fun e w'=>BareRet L n e w'∧Below w.heap.size w w':=by
 refine(bare_c L n q c w hv hn h3).mono ?_
 rintro e w' ⟨⟨q',c',he,hk,_⟩,hb⟩
 exact⟨⟨q',c',he,hk⟩,hb⟩
theorem below_drawn {B:Nat}{a w:World}(h:Below B a w)(n:Nat):Below B a (w.drewN n):=⟨h.os,h.tape,h.output,h.size,h.block⟩
theorem sameTok_any (L:List Tk)(p q:Option Addr)(c1 c2:Nat)(w:World)(ha:TKL w p L)(hb:TKL w q L)(hl:L.length≤maxLen):
 Calls Tryz.prog 6 #[.slice p L.length c1,.slice q L.length c2] w fun e w'=>e= .returned (.bool true)∧Below w.heap.size w w':=by
 unfold maxLen at hl
 have i0:((L.length:Int) != (L.length:Int))=false:=by simp
 go_enter Tryz.func6,Tryz.ntmps6
 go_wp2
 go_loopw [5] (fun i wr=>∃k n:Nat,k≤L.length∧i= .int .i64 k∧wr=w.drewN n) (fun i _=>L.length-(intOf i).toNat)
 case atStart=>exact⟨0,0,Nat.zero_le _,rfl,rfl⟩
 case round=>
  obtain⟨k,n,hk,rfl,rfl⟩:=hrel
  by_cases hlt:k<L.length
  · obtain⟨b1,o1,rfl,hb1,x0,x1,x2⟩:=ha.at hlt
    obtain⟨b2,o2,rfl,hb2,y0,y1,y2⟩:=hb.at hlt
    have i1:(k:Int)<(L.length:Int):=by omega
    generalize L[k]=x at *
    go_wp2
    go_quiet (fail)
    go_wp2
    go_roundw
    case rel=>exact⟨k+1,_,by omega,by go_num,rfl⟩
    case measure=>simp[intOf];omega
  · have i1:¬(k:Int)<(L.length:Int):=by omega
    go_wp2
    go_ret
    exact⟨rfl,below_drawn (Below.refl _ _) _⟩
theorem fact_read:readL [97,32,61,61,32,53]= .ok [mkT 1 [97] 0,mkT 5 [61,61] 2,mkT 2 [53] 5]:=by
 unfold readL
 rw[if_neg (by decide),wds_word (by decide) (x:=(1,[97],1)) rfl (by decide)]
 simp only[List.nil_append,List.drop_zero,Nat.sub_self,Nat.zero_add]
 rw[wds_blank (by decide),wds_word (by decide) (x:=(5,[61,61],2)) rfl (by simp)]
 simp only[Nat.add_one_sub_one,List.drop_succ_cons,List.drop_zero]
 rw[wds_blank (by decide),wds_word (by decide) (x:=(2,[53],1)) rfl (by simp)]
 simp only[Nat.sub_self,List.drop_zero]
 rw[wds_nil]
 rfl
theorem sameTok_n (L:List Tk)(n:Nat)(hn:L.length=n)(p q:Option Addr)(c1 c2:Nat)(w:World)(ha:TKL w p L)(hb:TKL w q L)(hl:n≤300):
 Calls Tryz.prog 6 #[.slice p n c1,.slice q n c2] w fun e w'=>e= .returned (.bool true)∧Below w.heap.size w w':=by
 subst hn
 exact sameTok_any L p q c1 c2 w ha hb (by unfold maxLen;omega)
end Go.Proofs.YtgbljlabifpmgaaGreatDoor
