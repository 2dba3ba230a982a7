import Derived.Test.YtjkepjbfgeldnaaGreatDoorB1
import Derived.Test.YtjkepjbfgeldnaaGreatDoorB4
import Derived.Test.YtjkepjbfgeldnaaGreatDoorB6
import Derived.Shelf.Abstract
set_option linter.unusedVariables false
set_option maxHeartbeats 12000000
namespace Go.Proofs.YtjkepjbfgeldnaaGreatDoor
open Go.RowKit
def thrownW (n:Int):List PanicEntry:=[{ v:=.iface 106 (.agg #[.iface 41 (.int .i64 n)]),recovered:=false }]
theorem wneed_true (v:Value)(w:World):Calls Tryz.prog 59 #[.bool true,v] w fun e w'=>e= .returned (.tuple #[])∧w'=w:=by
 go_enter Tryz.func59,Tryz.ntmps59
 go_wp2
 go_end0
 exact⟨rfl,rfl⟩
theorem wneed_false (n:Int)(w:World):Calls Tryz.prog 59 #[.bool false,.iface 41 (.int .i64 n)] w fun e w'=>e= .panicked (thrownW n)∧w'=w:=by
 go_enter Tryz.func59,Tryz.ntmps59
 go_wp2
 exact⟨rfl,rfl,rfl⟩
theorem wLetter_any (c:UInt8)(w:World):
 Calls Tryz.prog 83 #[.int .u8 (c.toNat:Int)] w fun e w'=>e= .returned (.bool (letb c))∧w'=w:=by
 go_enter Tryz.func83,Tryz.ntmps83
 go_wp2
 all_goals
  go_ret
  refine⟨ret_bool ?_,rfl⟩
  rw[Bool.eq_iff_iff]
  simp[letb]
  omega
theorem wDigit_any (c:UInt8)(w:World):
 Calls Tryz.prog 85 #[.int .u8 (c.toNat:Int)] w fun e w'=>e= .returned (.bool (digb c))∧w'=w:=by
 go_enter Tryz.func85,Tryz.ntmps85
 go_wp2
 all_goals
  go_ret
  refine⟨ret_bool ?_,rfl⟩
  rw[Bool.eq_iff_iff]
  simp[digb]
  omega
theorem wBlank_any (c:UInt8)(w:World):
 Calls Tryz.prog 57 #[.int .u8 (c.toNat:Int)] w fun e w'=>e= .returned (.bool (blankb c))∧w'=w:=by
 go_enter Tryz.func57,Tryz.ntmps57
 go_wp2
 go_ret
 refine⟨ret_bool ?_,rfl⟩
 rw[Bool.eq_iff_iff]
 simp[blankb]
 omega
theorem wNameByte_any (c:UInt8)(w:World):
 Calls Tryz.prog 109 #[.int .u8 (c.toNat:Int)] w fun e w'=>e= .returned (.bool (namb c))∧w'=w:=by
 cases hl:letb c<;>cases hd:digb c
 all_goals
  have HN:Hid (namb c=(letb c || digb c)):=rfl
  rw[hl,hd]at HN
  go_enter Tryz.func109,Tryz.ntmps109
  go_wp2_with (first | (go_at_call 83;refine(wLetter_any _ _).mono ?_;rintro e w' ⟨rfl,rfl⟩) | (go_at_call 85;refine(wDigit_any _ _).mono ?_;rintro e w' ⟨rfl,rfl⟩))
  go_ret
  exact⟨ret_bool HN.out.symm,rfl⟩
theorem wTextByte_any (c:UInt8)(w:World):
 Calls Tryz.prog 113 #[.int .u8 (c.toNat:Int)] w fun e w'=>e= .returned (.bool (okb c))∧w'=w:=by
 by_cases h:(32:Int)≤(c.toNat:Int)
 · go_enter Tryz.func113,Tryz.ntmps113
   go_wp2
   go_ret
   refine⟨?_,rfl⟩
   have h':32≤c.toNat:=by omega
   simp[okb,h'];omega
 · go_enter Tryz.func113,Tryz.ntmps113
   go_wp2
   go_ret
   refine⟨?_,rfl⟩
   have h':¬ 32≤c.toNat:=by omega
   simp[okb,h']
theorem wGuarded_any (c:UInt8)(w:World):
 Calls Tryz.prog 114 #[.int .u8 (c.toNat:Int)] w fun e w'=>e= .returned (.bool (grd c))∧w'=w:=by
 go_enter Tryz.func114,Tryz.ntmps114
 go_wp2
 all_goals
  go_ret
  refine⟨?_,rfl⟩
 · have h:(c.toNat:Int)=34:=by assumption
   have h':c.toNat=34:=by omega
   simp[grd,h']
 · have h:¬(c.toNat:Int)=34:=by assumption
   have h':(c.toNat == 34)=false:=by simp;omega
   have e:((c.toNat:Int) == 92)=(c.toNat == 92):=by rw[Bool.eq_iff_iff];simp;omega
   have e2:((c.toNat:Int) == 34)=false:=by simp;omega
   have e3:((c.toNat:Int) == 34 || (c.toNat:Int) == 92)=grd c:=by unfold grd;rw[h',e2,e]
   exact congrArg (fun b=>Ending.returned (.bool b)) e3
theorem run_step {p:UInt8→Bool}(s:ByteArray)(k:Nat)(h:k<s.size)(hp:(s.data.toList.take k).all p=true)(hb:p s[k]=false):runL p s.data.toList=k:=by
 have hl:s.data.toList.length=s.size:=by simp
 have e:s.data.toList=s.data.toList.take k++s[k]::s.data.toList.drop (k+1):=by
  conv=>lhs;rw[←List.take_append_drop k s.data.toList]
  congr 1
  rw[List.drop_eq_getElem_cons (by omega)];rfl
 unfold runL
 rw[e,List.takeWhile_append_of_pos (fun a ha=>List.all_eq_true.1 hp a ha),List.takeWhile_cons,if_neg (by rw[hb];decide)]
 simp;omega
theorem run_all {p:UInt8→Bool}(s:ByteArray)(hp:s.data.toList.all p=true):runL p s.data.toList=s.size:=by
 unfold runL;rw[takeWhile_id _ _ hp];simp
theorem all_next {p:UInt8→Bool}(s:ByteArray)(k:Nat)(h:k<s.size)(hp:(s.data.toList.take k).all p=true)(hb:p s[k]=true):(s.data.toList.take (k+1)).all p=true:=by
 rw[take_snoc s k h,List.all_append,hp];simp[hb]
theorem run_any (s:ByteArray)(g:Nat)(p:UInt8→Bool)(w:World)(hs:s.size≤maxLen)(eg:∀args w,(callFunc g args).run Tryz.prog w= .ok (.enter g args) w)
 (hp:∀(c:UInt8) (w:World),Calls Tryz.prog g #[.int .u8 (c.toNat:Int)] w fun e w'=>e= .returned (.bool (p c))∧w'=w):
 Calls Tryz.prog 56 #[.string s,.func (.func g) #[] #[]] w fun e w'=>e= .returned (.int .i64 (runL p s.data.toList))∧w'=w:=by
 unfold maxLen at hs
 have HP:Hid (∀(c:UInt8) (w:World),Calls Tryz.prog g #[.int .u8 (c.toNat:Int)] w fun e w'=>e= .returned (.bool (p c))∧w'=w):=hp
 clear hp
 go_enter Tryz.func56,Tryz.ntmps56
 go_wp2
 go_loop [8] (fun i=>∃k:Nat,k≤s.size∧i= .int .i64 k∧Hid ((s.data.toList.take k).all p=true)) (fun i=>s.size-(intOf i).toNat)
 case atStart=>exact⟨0,Nat.zero_le _,rfl,rfl⟩
 case round=>
  obtain⟨k,hk,rfl,HA⟩:=hrel
  by_cases hlt:k<s.size
  · have i1:(k:Int)<(s.size:Int):=by omega
    have H1:=fun w=>HP.out s[k] w
    cases hb:p s[k]
    · rw[hb]at H1
      have HF:Hid (_=_):=run_step s k hlt HA.out hb
      go_wp2_with (go_at_fn g;refine(H1 _).mono ?_;rintro e w1 ⟨rfl,rfl⟩)
      go_ret
      exact⟨by rw[HF.out];rfl,rfl⟩
    · rw[hb]at H1
      have HF:Hid (_=_):=all_next s k hlt HA.out hb
      go_wp2_with (go_at_fn g;refine(H1 _).mono ?_;rintro e w1 ⟨rfl,rfl⟩)
      go_round
      case rel=>exact⟨k+1,by omega,by go_num,HF⟩
      case measure=>simp[intOf];omega
  · obtain rfl:k=s.size:=by omega
    have i1:¬(s.size:Int)<(s.size:Int):=by omega
    have HF:Hid (_=_):=run_all (p:=p) s (by have:=HA.out;rw[take_all s]at this;exact this)
    go_wp2
    go_ret
    exact⟨by rw[HF.out];rfl,rfl⟩
theorem runBlank_any (s:ByteArray)(w:World)(hs:s.size≤maxLen):
 Calls Tryz.prog 56 #[.string s,.func (.func 57) #[] #[]] w fun e w'=>e= .returned (.int .i64 (runL blankb s.data.toList))∧w'=w:=
 run_any s _ blankb w hs (enters_of Tryz.func57 (by kernel_rfl) rfl) wBlank_any
theorem runDigit_any (s:ByteArray)(w:World)(hs:s.size≤maxLen):
 Calls Tryz.prog 56 #[.string s,.func (.func 85) #[] #[]] w fun e w'=>e= .returned (.int .i64 (runL digb s.data.toList))∧w'=w:=
 run_any s _ digb w hs (enters_of Tryz.func85 (by kernel_rfl) rfl) wDigit_any
theorem runName_any (s:ByteArray)(w:World)(hs:s.size≤maxLen):
 Calls Tryz.prog 56 #[.string s,.func (.func 109) #[] #[]] w fun e w'=>e= .returned (.int .i64 (runL namb s.data.toList))∧w'=w:=
 run_any s _ namb w hs (enters_of Tryz.func109 (by kernel_rfl) rfl) wNameByte_any
theorem qsc_end (g:Bool):qsc g []=none:=rfl
theorem qsc_quote {c:UInt8}{r:List UInt8}{g:Bool}(h:(c.toNat == 34 && !g)=true):qsc g (c::r)=some ([],0):=by
 unfold qsc;rw[if_pos h]
theorem qsc_go {c:UInt8}{r:List UInt8}{g:Bool}(h:(c.toNat == 34 && !g)=false)(h2:(okb c && (!g || grd c))=true):
 qsc g (c::r)=(qsc (c.toNat == 92 && !g) r).map fun x=>(if (c.toNat == 92 && !g)=true then x.1 else c::x.1,x.2+1):=by
 rw[qsc,if_neg (by rw[h];decide),if_pos h2]
theorem qsc_no {c:UInt8}{r:List UInt8}{g:Bool}(h:(c.toNat == 34 && !g)=false)(h2:(okb c && (!g || grd c))=false):qsc g (c::r)=none:=by
 rw[qsc,if_neg (by rw[h];decide),if_neg (by rw[h2];decide)]
theorem drop_at (s:ByteArray)(k:Nat)(h:k<s.size):s.data.toList.drop k=s[k]::s.data.toList.drop (k+1):=by
 rw[List.drop_eq_getElem_cons (by simpa using h)];rfl
theorem wQuo_none {l:List UInt8}(h:qsc false l=none):wQuo l= .error 1:=by unfold wQuo;rw[h]
theorem wQuo_long {l:List UInt8}{x:List UInt8×Nat}(h:qsc false l=some x)(h2:60<x.1.length):wQuo l= .error 4:=by
 unfold wQuo;rw[h];exact if_pos h2
theorem wQuo_ok {l:List UInt8}{x:List UInt8×Nat}(h:qsc false l=some x)(h2:¬ 60<x.1.length):wQuo l= .ok (3,x.1,x.2+2):=by
 unfold wQuo;rw[h];exact if_neg h2
theorem OwnB.shape {w:World}{base:Nat}{v:Value}{l:List UInt8}(h:OwnB w base v l):∃q c,v= .slice q l.length c:=by
 rcases h.2 with⟨rfl,hn⟩ | ⟨g,cap,cur,rfl,hb,hgg,hle,hm,hsz,htk⟩
 · obtain rfl:=List.eq_nil_of_length_eq_zero hn
   exact⟨none,0,rfl⟩
 · exact⟨_,_,rfl⟩
theorem OwnB.up {w w':World}{base:Nat}{v:Value}{L:List UInt8}(h:OwnB w base v L)(k:Below w.heap.size w w'):OwnB w' base v L:=by
 refine⟨h.1,?_⟩
 rcases h.2 with hn | ⟨g,cap,cur,rfl,hb,hgg,rest⟩
 · exact .inl hn
 · exact .inr ⟨g,cap,cur,rfl,hb,(k.block g (Array.getElem?_eq_some_iff.1 hgg).1).trans hgg,rest⟩
theorem size_set (w:World)(a:Addr)(v:Value):(w.setCell a v).heap.size=w.heap.size:=by simp[World.setCell]
structure QS (w0 wr:World)(B:Nat)(g:Bool)(l:List UInt8):Prop where
 bel:Below B w0 wr
 size:B+2≤wr.heap.size
 flag:wr.cell? ⟨B+1,0,none⟩=some (.bool g)
 flagf:wr.frozen? ⟨B+1,0,none⟩=false
 row:∃v,wr.cell? ⟨B,0,none⟩=some v∧OwnB wr (B+2) v l
 rowf:wr.frozen? ⟨B,0,none⟩=false
theorem QS.mark {w0 wr:World}{B:Nat}{g:Bool}{l:List UInt8}(h:QS w0 wr B g l)(g':Bool):QS w0 (wr.setCell ⟨B+1,0,none⟩ (.bool g')) B g' l where
 bel:=h.bel.setCell (by simp) _
 size:=by have:=h.size;simpa[World.setCell]using this
 flag:=World.cell?_setCell_same _ _ _ h.flag
 flagf:=by simpa using h.flagf
 row:=by
  obtain⟨v,h1,h2⟩:=h.row
  exact⟨v,(World.cell?_setCell_other _ _ _ _ (by simp)).trans h1,ownsRow_setCell_below h2 (by show B+1<B+2;omega) _⟩
 rowf:=by simpa using h.rowf
theorem QS.grow {w0 wr w1:World}{B:Nat}{g:Bool}{l m:List UInt8}{v:Value}(h:QS w0 wr B g l)(hb:Below (B+2) wr w1)(hown:OwnB w1 (B+2) v m):QS w0 (w1.setCell ⟨B,0,none⟩ v) B g m where
 bel:=(h.bel.trans (hb.mono (by omega))).setCell (by simp) _
 size:=by have:=h.size;have:=hb.size;simp[World.setCell];omega
 flag:=((World.cell?_setCell_other _ _ _ _ (by simp)).trans (hb.cell (p:=⟨B+1,0,none⟩) (by show B+1<B+2;omega))).trans h.flag
 flagf:=by
  have:=(hb.frozen (p:=⟨B+1,0,none⟩) (by show B+1<B+2;omega)).trans h.flagf
  simpa using this
 row:=by
  obtain⟨u,h1,h2⟩:=h.row
  exact⟨v,World.cell?_setCell_same _ _ _ ((hb.cell (p:=⟨B,0,none⟩) (by show B<B+2;omega)).trans h1),ownsRow_setCell_below hown (by show B<B+2;omega) _⟩
 rowf:=by
  have:=(hb.frozen (p:=⟨B,0,none⟩) (by show B<B+2;omega)).trans h.rowf
  simpa using this
def ClosPost (w0:World)(B:Nat)(g:Bool)(l:List UInt8)(c:UInt8)(e:Ending)(w':World):Prop:=
 if (c.toNat == 34 && !g)=true then e= .returned (.bool false)∧QS w0 w' B g l
 else if (okb c && (!g || grd c))=true then e= .returned (.bool true)∧QS w0 w' B (c.toNat == 92 && !g) (if (c.toNat == 92 && !g)=true then l else l++[c])
 else e= .panicked (thrownW 1)∧QS w0 w' B g l
theorem clos_any (c:UInt8)(w0 wr:World)(B:Nat)(g:Bool)(l:List UInt8)(h:QS w0 wr B g l)(hl:l.length≤1000):
 Calls Tryz.prog 112 #[.int .u8 (c.toNat:Int),.pointer (some ⟨B+1,0,none⟩),.pointer (some ⟨B,0,none⟩)] wr fun e w'=>ClosPost w0 B g l c e w':=by
 have HQ:Hid (QS w0 wr B g l):=h
 have hfl:=h.flag
 have hff:=h.flagf
 have hsz:=h.size
 obtain⟨v,hrow,hown⟩:=h.row
 obtain⟨q,cp,rfl⟩:=hown.shape
 have hrf:=h.rowf
 clear h
 cases h34:(c.toNat == 34)<;>cases g
 · have i34:((c.toNat:Int) == 34)=false:=by simp at h34 ⊢; omega
   cases hok:okb c
   · have HP:Hid (∀e w',(e= .panicked (thrownW 1)∧QS w0 w' B false l)→ClosPost w0 B false l c e w'):=fun e w' hh=>by
      unfold ClosPost;rw[h34,hok];exact hh
     clear h34
     go_enter Tryz.func112,Tryz.ntmps112
     go_wp2_with (first
      | (go_at_call 113;refine(wTextByte_any _ _).mono ?_;rintro e w' ⟨rfl,rfl⟩;rw[hok])
      | (go_at_call 59;refine(wneed_false _ _).mono ?_;rintro e w' ⟨rfl,rfl⟩))
     exact⟨rfl,HP.out _ _ ⟨rfl,HQ.out⟩⟩
   · cases h92:(c.toNat == 92)
     · have i92:((c.toNat:Int) == 92)=false:=by simp at h92 ⊢; omega
       have HP:Hid (∀e w',(e= .returned (.bool true)∧QS w0 w' B false (l++[c]))→ClosPost w0 B false l c e w'):=fun e w' hh=>by
        unfold ClosPost;rw[h34,hok,h92];exact hh
       have HQ2:=HQ.out.mark false
       have c2:=HQ2.flag
       obtain⟨v2,r2,o2⟩:=HQ2.row
       obtain rfl:v2= .slice q l.length cp:=Option.some.inj (r2.symm.trans ((World.cell?_setCell_other _ _ _ _ (by simp)).trans hrow))
       have f2:=HQ2.rowf
       have z2:=HQ2.size
       have HQ3:Hid _:=HQ2
       clear h34 h92 HQ2 HQ
       go_enter Tryz.func112,Tryz.ntmps112
       go_wp2_with (first
        | (go_at_call 113;refine(wTextByte_any _ _).mono ?_;rintro e w' ⟨rfl,rfl⟩;rw[hok])
        | (go_at_call 59;refine(wneed_true _ _).mono ?_;rintro e w' ⟨rfl,rfl⟩)
        | (at_builtin;refine append_byte _ rfl (.tmp 31) (.tmp 33) rfl (B+2) _ _ rfl o2 _ c rfl (by rw[size_set];rfl) (by omega) z2 ?_;intro v' w1 hown1 hb1;obtain⟨q',c',rfl⟩:=hown1.shape;have hc1:=(hb1.cell (p:=⟨B,0,none⟩) (by show B<B+2;omega)).trans r2;have hf1:=(hb1.frozen (p:=⟨B,0,none⟩) (by show B<B+2;omega)).trans f2))
       go_ret
       exact HP.out _ _ ⟨rfl,HQ3.out.grow hb1 (by rw[List.length_append]at hown1;exact hown1)⟩
     · have i92:((c.toNat:Int) == 92)=true:=by simp at h92 ⊢; omega
       have HP:Hid (∀e w',(e= .returned (.bool true)∧QS w0 w' B true l)→ClosPost w0 B false l c e w'):=fun e w' hh=>by
        unfold ClosPost;rw[h34,hok,h92];exact hh
       have HQ2:=HQ.out.mark true
       have c2:=HQ2.flag
       obtain⟨v2,r2,o2⟩:=HQ2.row
       obtain rfl:v2= .slice q l.length cp:=Option.some.inj (r2.symm.trans ((World.cell?_setCell_other _ _ _ _ (by simp)).trans hrow))
       have f2:=HQ2.rowf
       have z2:=HQ2.size
       have HQ3:Hid _:=HQ2
       clear h34 h92 HQ2 HQ
       go_enter Tryz.func112,Tryz.ntmps112
       go_wp2_with (first
        | (go_at_call 113;refine(wTextByte_any _ _).mono ?_;rintro e w' ⟨rfl,rfl⟩;rw[hok])
        | (go_at_call 59;refine(wneed_true _ _).mono ?_;rintro e w' ⟨rfl,rfl⟩))
       go_ret
       exact HP.out _ _ ⟨rfl,HQ3.out⟩
 · have i34:((c.toNat:Int) == 34)=false:=by simp at h34 ⊢; omega
   cases hgd:grd c
   · cases hok:okb c
     · have HP:Hid (∀e w',(e= .panicked (thrownW 1)∧QS w0 w' B true l)→ClosPost w0 B true l c e w'):=fun e w' hh=>by
        unfold ClosPost;rw[h34,hok];exact hh
       clear h34
       go_enter Tryz.func112,Tryz.ntmps112
       go_wp2_with (first
        | (go_at_call 113;refine(wTextByte_any _ _).mono ?_;rintro e w' ⟨rfl,rfl⟩;rw[hok])
        | (go_at_call 114;refine(wGuarded_any _ _).mono ?_;rintro e w' ⟨rfl,rfl⟩;rw[hgd])
        | (go_at_call 59;refine(wneed_false _ _).mono ?_;rintro e w' ⟨rfl,rfl⟩))
       exact⟨rfl,HP.out _ _ ⟨rfl,HQ.out⟩⟩
     · have HP:Hid (∀e w',(e= .panicked (thrownW 1)∧QS w0 w' B true l)→ClosPost w0 B true l c e w'):=fun e w' hh=>by
        unfold ClosPost;rw[h34,hok,hgd];exact hh
       clear h34
       go_enter Tryz.func112,Tryz.ntmps112
       go_wp2_with (first
        | (go_at_call 113;refine(wTextByte_any _ _).mono ?_;rintro e w' ⟨rfl,rfl⟩;rw[hok])
        | (go_at_call 114;refine(wGuarded_any _ _).mono ?_;rintro e w' ⟨rfl,rfl⟩;rw[hgd])
        | (go_at_call 59;refine(wneed_false _ _).mono ?_;rintro e w' ⟨rfl,rfl⟩))
       exact⟨rfl,HP.out _ _ ⟨rfl,HQ.out⟩⟩
   · cases hok:okb c
     · have HP:Hid (∀e w',(e= .panicked (thrownW 1)∧QS w0 w' B true l)→ClosPost w0 B true l c e w'):=fun e w' hh=>by
        unfold ClosPost;rw[h34,hok];exact hh
       clear h34
       go_enter Tryz.func112,Tryz.ntmps112
       go_wp2_with (first
        | (go_at_call 113;refine(wTextByte_any _ _).mono ?_;rintro e w' ⟨rfl,rfl⟩;rw[hok])
        | (go_at_call 114;refine(wGuarded_any _ _).mono ?_;rintro e w' ⟨rfl,rfl⟩;rw[hgd])
        | (go_at_call 59;refine(wneed_false _ _).mono ?_;rintro e w' ⟨rfl,rfl⟩))
       exact⟨rfl,HP.out _ _ ⟨rfl,HQ.out⟩⟩
     · cases h92:(c.toNat == 92)
       · have i92:((c.toNat:Int) == 92)=false:=by simp at h92 ⊢; omega
         have HP:Hid (∀e w',(e= .returned (.bool true)∧QS w0 w' B false (l++[c]))→ClosPost w0 B true l c e w'):=fun e w' hh=>by
          unfold ClosPost;rw[h34,hok,h92,hgd];exact hh
         have HQ2:=HQ.out.mark false
         have c2:=HQ2.flag
         obtain⟨v2,r2,o2⟩:=HQ2.row
         obtain rfl:v2= .slice q l.length cp:=Option.some.inj (r2.symm.trans ((World.cell?_setCell_other _ _ _ _ (by simp)).trans hrow))
         have f2:=HQ2.rowf
         have z2:=HQ2.size
         have HQ3:Hid _:=HQ2
         clear h34 h92 HQ2 HQ
         go_enter Tryz.func112,Tryz.ntmps112
         go_wp2_with (first
          | (go_at_call 113;refine(wTextByte_any _ _).mono ?_;rintro e w' ⟨rfl,rfl⟩;rw[hok])
          | (go_at_call 114;refine(wGuarded_any _ _).mono ?_;rintro e w' ⟨rfl,rfl⟩;rw[hgd])
          | (go_at_call 59;refine(wneed_true _ _).mono ?_;rintro e w' ⟨rfl,rfl⟩)
          | (at_builtin;refine append_byte _ rfl (.tmp 31) (.tmp 33) rfl (B+2) _ _ rfl o2 _ c rfl (by rw[size_set];rfl) (by omega) z2 ?_;intro v' w1 hown1 hb1;obtain⟨q',c',rfl⟩:=hown1.shape;have hc1:=(hb1.cell (p:=⟨B,0,none⟩) (by show B<B+2;omega)).trans r2;have hf1:=(hb1.frozen (p:=⟨B,0,none⟩) (by show B<B+2;omega)).trans f2))
         go_ret
         exact HP.out _ _ ⟨rfl,HQ3.out.grow hb1 (by rw[List.length_append]at hown1;exact hown1)⟩
       · have i92:((c.toNat:Int) == 92)=true:=by simp at h92 ⊢; omega
         have HP:Hid (∀e w',(e= .returned (.bool true)∧QS w0 w' B false (l++[c]))→ClosPost w0 B true l c e w'):=fun e w' hh=>by
          unfold ClosPost;rw[h34,hok,h92,hgd];exact hh
         have HQ2:=HQ.out.mark false
         have c2:=HQ2.flag
         obtain⟨v2,r2,o2⟩:=HQ2.row
         obtain rfl:v2= .slice q l.length cp:=Option.some.inj (r2.symm.trans ((World.cell?_setCell_other _ _ _ _ (by simp)).trans hrow))
         have f2:=HQ2.rowf
         have z2:=HQ2.size
         have HQ3:Hid _:=HQ2
         clear h34 h92 HQ2 HQ
         go_enter Tryz.func112,Tryz.ntmps112
         go_wp2_with (first
          | (go_at_call 113;refine(wTextByte_any _ _).mono ?_;rintro e w' ⟨rfl,rfl⟩;rw[hok])
          | (go_at_call 114;refine(wGuarded_any _ _).mono ?_;rintro e w' ⟨rfl,rfl⟩;rw[hgd])
          | (go_at_call 59;refine(wneed_true _ _).mono ?_;rintro e w' ⟨rfl,rfl⟩)
          | (at_builtin;refine append_byte _ rfl (.tmp 31) (.tmp 33) rfl (B+2) _ _ rfl o2 _ c rfl (by rw[size_set];rfl) (by omega) z2 ?_;intro v' w1 hown1 hb1;obtain⟨q',c',rfl⟩:=hown1.shape;have hc1:=(hb1.cell (p:=⟨B,0,none⟩) (by show B<B+2;omega)).trans r2;have hf1:=(hb1.frozen (p:=⟨B,0,none⟩) (by show B<B+2;omega)).trans f2))
         go_ret
         exact HP.out _ _ ⟨rfl,HQ3.out.grow hb1 (by rw[List.length_append]at hown1;exact hown1)⟩
 · have i34:((c.toNat:Int) == 34)=true:=by simp at h34 ⊢; omega
   have HP:Hid (∀e w',(e= .returned (.bool false)∧QS w0 w' B false l)→ClosPost w0 B false l c e w'):=fun e w' hh=>by
    unfold ClosPost;rw[h34];exact hh
   clear h34
   go_enter Tryz.func112,Tryz.ntmps112
   go_wp2
   go_ret
   exact HP.out _ _ ⟨rfl,HQ.out⟩
 · have i34:((c.toNat:Int) == 34)=true:=by simp at h34 ⊢; omega
   cases hgd:grd c
   · cases hok:okb c
     · have HP:Hid (∀e w',(e= .panicked (thrownW 1)∧QS w0 w' B true l)→ClosPost w0 B true l c e w'):=fun e w' hh=>by
        unfold ClosPost;rw[h34,hok];exact hh
       clear h34
       go_enter Tryz.func112,Tryz.ntmps112
       go_wp2_with (first
        | (go_at_call 113;refine(wTextByte_any _ _).mono ?_;rintro e w' ⟨rfl,rfl⟩;rw[hok])
        | (go_at_call 114;refine(wGuarded_any _ _).mono ?_;rintro e w' ⟨rfl,rfl⟩;rw[hgd])
        | (go_at_call 59;refine(wneed_false _ _).mono ?_;rintro e w' ⟨rfl,rfl⟩))
       exact⟨rfl,HP.out _ _ ⟨rfl,HQ.out⟩⟩
     · have HP:Hid (∀e w',(e= .panicked (thrownW 1)∧QS w0 w' B true l)→ClosPost w0 B true l c e w'):=fun e w' hh=>by
        unfold ClosPost;rw[h34,hok,hgd];exact hh
       clear h34
       go_enter Tryz.func112,Tryz.ntmps112
       go_wp2_with (first
        | (go_at_call 113;refine(wTextByte_any _ _).mono ?_;rintro e w' ⟨rfl,rfl⟩;rw[hok])
        | (go_at_call 114;refine(wGuarded_any _ _).mono ?_;rintro e w' ⟨rfl,rfl⟩;rw[hgd])
        | (go_at_call 59;refine(wneed_false _ _).mono ?_;rintro e w' ⟨rfl,rfl⟩))
       exact⟨rfl,HP.out _ _ ⟨rfl,HQ.out⟩⟩
   · cases hok:okb c
     · have HP:Hid (∀e w',(e= .panicked (thrownW 1)∧QS w0 w' B true l)→ClosPost w0 B true l c e w'):=fun e w' hh=>by
        unfold ClosPost;rw[h34,hok];exact hh
       clear h34
       go_enter Tryz.func112,Tryz.ntmps112
       go_wp2_with (first
        | (go_at_call 113;refine(wTextByte_any _ _).mono ?_;rintro e w' ⟨rfl,rfl⟩;rw[hok])
        | (go_at_call 114;refine(wGuarded_any _ _).mono ?_;rintro e w' ⟨rfl,rfl⟩;rw[hgd])
        | (go_at_call 59;refine(wneed_false _ _).mono ?_;rintro e w' ⟨rfl,rfl⟩))
       exact⟨rfl,HP.out _ _ ⟨rfl,HQ.out⟩⟩
     · cases h92:(c.toNat == 92)
       · have i92:((c.toNat:Int) == 92)=false:=by simp at h92 ⊢; omega
         have HP:Hid (∀e w',(e= .returned (.bool true)∧QS w0 w' B false (l++[c]))→ClosPost w0 B true l c e w'):=fun e w' hh=>by
          unfold ClosPost;rw[h34,hok,h92,hgd];exact hh
         have HQ2:=HQ.out.mark false
         have c2:=HQ2.flag
         obtain⟨v2,r2,o2⟩:=HQ2.row
         obtain rfl:v2= .slice q l.length cp:=Option.some.inj (r2.symm.trans ((World.cell?_setCell_other _ _ _ _ (by simp)).trans hrow))
         have f2:=HQ2.rowf
         have z2:=HQ2.size
         have HQ3:Hid _:=HQ2
         clear h34 h92 HQ2 HQ
         go_enter Tryz.func112,Tryz.ntmps112
         go_wp2_with (first
          | (go_at_call 113;refine(wTextByte_any _ _).mono ?_;rintro e w' ⟨rfl,rfl⟩;rw[hok])
          | (go_at_call 114;refine(wGuarded_any _ _).mono ?_;rintro e w' ⟨rfl,rfl⟩;rw[hgd])
          | (go_at_call 59;refine(wneed_true _ _).mono ?_;rintro e w' ⟨rfl,rfl⟩)
          | (at_builtin;refine append_byte _ rfl (.tmp 31) (.tmp 33) rfl (B+2) _ _ rfl o2 _ c rfl (by rw[size_set];rfl) (by omega) z2 ?_;intro v' w1 hown1 hb1;obtain⟨q',c',rfl⟩:=hown1.shape;have hc1:=(hb1.cell (p:=⟨B,0,none⟩) (by show B<B+2;omega)).trans r2;have hf1:=(hb1.frozen (p:=⟨B,0,none⟩) (by show B<B+2;omega)).trans f2))
         go_ret
         exact HP.out _ _ ⟨rfl,HQ3.out.grow hb1 (by rw[List.length_append]at hown1;exact hown1)⟩
       · have i92:((c.toNat:Int) == 92)=true:=by simp at h92 ⊢; omega
         have HP:Hid (∀e w',(e= .returned (.bool true)∧QS w0 w' B false (l++[c]))→ClosPost w0 B true l c e w'):=fun e w' hh=>by
          unfold ClosPost;rw[h34,hok,h92,hgd];exact hh
         have HQ2:=HQ.out.mark false
         have c2:=HQ2.flag
         obtain⟨v2,r2,o2⟩:=HQ2.row
         obtain rfl:v2= .slice q l.length cp:=Option.some.inj (r2.symm.trans ((World.cell?_setCell_other _ _ _ _ (by simp)).trans hrow))
         have f2:=HQ2.rowf
         have z2:=HQ2.size
         have HQ3:Hid _:=HQ2
         clear h34 h92 HQ2 HQ
         go_enter Tryz.func112,Tryz.ntmps112
         go_wp2_with (first
          | (go_at_call 113;refine(wTextByte_any _ _).mono ?_;rintro e w' ⟨rfl,rfl⟩;rw[hok])
          | (go_at_call 114;refine(wGuarded_any _ _).mono ?_;rintro e w' ⟨rfl,rfl⟩;rw[hgd])
          | (go_at_call 59;refine(wneed_true _ _).mono ?_;rintro e w' ⟨rfl,rfl⟩)
          | (at_builtin;refine append_byte _ rfl (.tmp 31) (.tmp 33) rfl (B+2) _ _ rfl o2 _ c rfl (by rw[size_set];rfl) (by omega) z2 ?_;intro v' w1 hown1 hb1;obtain⟨q',c',rfl⟩:=hown1.shape;have hc1:=(hb1.cell (p:=⟨B,0,none⟩) (by show B<B+2;omega)).trans r2;have hf1:=(hb1.frozen (p:=⟨B,0,none⟩) (by show B<B+2;omega)).trans f2))
         go_ret
         exact HP.out _ _ ⟨rfl,HQ3.out.grow hb1 (by rw[List.length_append]at hown1;exact hown1)⟩
theorem some_shift {R:Option (List UInt8×Nat)}{l:List UInt8}{k:Nat}{c:UInt8}{b:Bool}{X:Option (List UInt8×Nat)}
 (h:(R.map fun x=>(if b=true then x.1 else c::x.1,x.2+1)).map (fun x=>(l++x.1,k+x.2))=X):
 R.map (fun x=>((if b=true then l else l++[c])++x.1,k+1+x.2))=X:=by
 rw[←h]
 cases R with
 | none=>rfl
 | some x=>
   cases b
   · simp;omega
   · simp;omega
def RunPost (w0:World)(B n:Nat)(R:Option (List UInt8×Nat))(e:Ending)(w':World):Prop:=
 match R with
 | some x=>e= .returned (.int .i64 x.2)∧∃g,QS w0 w' B g x.1
 | none=>(e= .returned (.int .i64 n)∧∃g l,QS w0 w' B g l)∨(e= .panicked (thrownW 1)∧Below B w0 w')
theorem runQuoted_any (s:ByteArray)(w0 w:World)(B:Nat)(hs:s.size≤900)(h0:QS w0 w B false []):
 Calls Tryz.prog 56 #[.string s,.func (.func 112) #[] #[.pointer (some ⟨B+1,0,none⟩),.pointer (some ⟨B,0,none⟩)]] w fun e w'=>RunPost w0 B s.size (qsc false s.data.toList) e w':=by
 generalize hR:qsc false s.data.toList=R
 have HR:Hid ((qsc false (s.data.toList.drop 0)).map (fun x=>([]++x.1,0+x.2))=R):=by
  show _=_;rw[List.drop_zero,hR];cases R<;>simp
 clear hR
 have eg:∀args w,(callFunc 112 args).run Tryz.prog w= .ok (.enter 112 args) w:=enters_of Tryz.func112 (by kernel_rfl) rfl
 go_enter Tryz.func56,Tryz.ntmps56
 go_wp2
 go_loopw [8] (fun i wr=>∃(k:Nat) (g:Bool) (l:List UInt8),k≤s.size∧i= .int .i64 k∧Hid (l.length≤k)∧Hid (QS w0 wr B g l)∧Hid ((qsc g (s.data.toList.drop k)).map (fun x=>(l++x.1,k+x.2))=R)) (fun i _=>s.size-(intOf i).toNat)
 case atStart=>exact⟨0,false,[],Nat.zero_le _,rfl,Nat.zero_le _,h0,HR⟩
 case round=>
  obtain⟨k,g,l,hk,rfl,HL,HQ,HS⟩:=hrel
  by_cases hlt:k<s.size
  · have i1:(k:Int)<(s.size:Int):=by omega
    have H1:=clos_any s[k] w0 wr B g l HQ.out (by have:=HL.out;omega)
    have HD:Hid (_=_):=drop_at s k hlt
    cases h34:(s[k].toNat == 34 && !g)
    · cases hgo:(okb s[k] && (!g || grd s[k]))
      · have HN:Hid (none=R):=by
         have:=HS.out
         rw[HD.out,qsc_no h34 hgo]at this
         exact this
        have H2:Calls Tryz.prog 112 #[.int .u8 (s[k].toNat:Int),.pointer (some ⟨B+1,0,none⟩),.pointer (some ⟨B,0,none⟩)] wr fun e w'=>e= .panicked (thrownW 1)∧QS w0 w' B g l:=
         H1.mono fun e w' hp=>by unfold ClosPost at hp;rw[h34,hgo]at hp;exact hp
        clear H1 HS HR HD h34 hgo
        go_wp2_with (go_at_fn 112;refine H2.mono ?_;rintro e w1 ⟨rfl,hq⟩)
        refine⟨rfl,?_⟩
        rw[←HN.out]
        exact .inr ⟨rfl,hq.bel⟩
      · have HN:Hid ((qsc (s[k].toNat == 92 && !g) (s.data.toList.drop (k+1))).map (fun x=>((if (s[k].toNat == 92 && !g)=true then l else l++[s[k]])++x.1,k+1+x.2))=R):=by
         have:=HS.out
         rw[HD.out,qsc_go h34 hgo]at this
         exact some_shift this
        have H2:Calls Tryz.prog 112 #[.int .u8 (s[k].toNat:Int),.pointer (some ⟨B+1,0,none⟩),.pointer (some ⟨B,0,none⟩)] wr fun e w'=>e= .returned (.bool true)∧QS w0 w' B (s[k].toNat == 92 && !g) (if (s[k].toNat == 92 && !g)=true then l else l++[s[k]]):=
         H1.mono fun e w' hp=>by unfold ClosPost at hp;rw[h34,hgo]at hp;exact hp
        have HL2:Hid ((if (s[k].toNat == 92 && !g)=true then l else l++[s[k]]).length≤k+1):=by
         have:=HL.out
         show _≤_
         split
         · omega
         · simp;omega
        clear H1 HS HR HD h34 hgo HL HQ
        go_wp2_with (go_at_fn 112;refine H2.mono ?_;rintro e w1 ⟨rfl,hq⟩)
        go_roundw
        case rel=>exact⟨k+1,_,_,by omega,by go_num,HL2,hq,HN⟩
        case measure=>simp[intOf];omega
    · have HN:Hid (some (l,k)=R):=by
       have:=HS.out
       rw[HD.out,qsc_quote h34]at this
       show _=_
       simpa using this
      have H2:Calls Tryz.prog 112 #[.int .u8 (s[k].toNat:Int),.pointer (some ⟨B+1,0,none⟩),.pointer (some ⟨B,0,none⟩)] wr fun e w'=>e= .returned (.bool false)∧QS w0 w' B g l:=
       H1.mono fun e w' hp=>by unfold ClosPost at hp;rw[h34]at hp;exact hp
      clear H1 HS HR HD h34
      go_wp2_with (go_at_fn 112;refine H2.mono ?_;rintro e w1 ⟨rfl,hq⟩)
      go_ret
      rw[←HN.out]
      exact⟨rfl,g,hq⟩
  · obtain rfl:k=s.size:=by omega
    have i1:¬(s.size:Int)<(s.size:Int):=by omega
    have HN:Hid (none=R):=by
     have:=HS.out
     rw[List.drop_of_length_le (by simp),qsc_end]at this
     exact this
    clear HS HR
    go_wp2
    go_ret
    rw[←HN.out]
    exact .inl ⟨rfl,g,l,HQ.out⟩
def endW:Except Int (Int×List UInt8×Nat)→Ending
 | .ok x=>.returned (.tuple #[.agg #[.int .i64 x.1,.string ⟨x.2.1.toArray⟩,.int .i64 0],.int .i64 x.2.2])
 | .error n=>.panicked (thrownW n)
theorem qs_start (w0:World)(B:Nat)(hB:B=w0.heap.size):QS w0 ((w0.alloc (.cells #[.slice none 0 0] 94)).alloc (.cells #[.bool false] 4)) B false []:=by
 subst hB
 exact {
  bel:=((Below.refl _ _).alloc (Nat.le_refl _) _).alloc (by simp) _
  size:=by simp
  flag:=by
   simp[go_sem]
  flagf:=by simp[go_sem]
  row:=⟨.slice none 0 0,by simp[go_sem],ownB_nil _ _⟩
  rowf:=by simp[go_sem] }
theorem firstQuoted_any (s:ByteArray)(w:World)(h1:0<s.size)(hs:s.size≤900):
 Calls Tryz.prog 87 #[.string s] w fun e w'=>e=endW (wQuo (s.data.toList.drop 1))∧Below w.heap.size w w':=by
 have hl:s.data.toList.length=s.size:=by simp
 have hx:(s.extract 1 s.size).data.toList=s.data.toList.drop 1:=by
  rw[Lib.extract_data]
  exact List.take_of_length_le (by simp)
 have hxs:(s.extract 1 s.size).size=s.size-1:=by simp
 have hmf:∀(fn:Fn) (first cap:Array Value) (w:World),(Instr.makeFunc fn first cap).run Tryz.prog w= .ok (.func fn first cap) w:=fun _ _ _ _=>rfl
 have i1:(1:Int)≤(s.size:Int):=by omega
 have hb0:Below w.heap.size w (w.alloc (.cells #[.int .i64 0,.string ⟨#[]⟩,.int .i64 0] 78)):=(Below.refl _ _).alloc (Nat.le_refl _) _
 have hz0:(w.alloc (.cells #[.int .i64 0,.string ⟨#[]⟩,.int .i64 0] 78)).heap.size=w.heap.size+1:=by simp
 have hrun:=runQuoted_any (s.extract 1 s.size) _ _ (w.heap.size+1) (by rw[hxs];omega) (qs_start (w.alloc (.cells #[.int .i64 0,.string ⟨#[]⟩,.int .i64 0] 78)) (w.heap.size+1) hz0.symm)
 rw[hx,hxs]at hrun
 have hc:∀o,(w.alloc (.cells #[.int .i64 0,.string ⟨#[]⟩,.int .i64 0] 78)).frozen? ⟨w.heap.size,o,none⟩=false:=by intro o;simp[go_sem]
 have hc0:(w.alloc (.cells #[.int .i64 0,.string ⟨#[]⟩,.int .i64 0] 78)).cell? ⟨w.heap.size,0,none⟩=some (.int .i64 0):=by simp[go_sem]
 have hc1:(w.alloc (.cells #[.int .i64 0,.string ⟨#[]⟩,.int .i64 0] 78)).cell? ⟨w.heap.size,1,none⟩=some (.string ⟨#[]⟩):=by simp[go_sem]
 have hc2:(w.alloc (.cells #[.int .i64 0,.string ⟨#[]⟩,.int .i64 0] 78)).cell? ⟨w.heap.size,2,none⟩=some (.int .i64 0):=by simp[go_sem]
 generalize hW0:w.alloc (.cells #[.int .i64 0,.string ⟨#[]⟩,.int .i64 0] 78)=w0 at hrun hc hc0 hc1 hc2 hb0 hz0
 cases hR:qsc false (s.data.toList.drop 1)with
 | none=>
   have HW:Hid (_=_):=wQuo_none hR
   rw[hR]at hrun
   clear hR hx
   go_enter Tryz.func87,Tryz.ntmps87
   go_wp2_with fail
   refine hrun.mono ?_
   rintro e w1 (⟨rfl,g,l,hq⟩ | ⟨rfl,hb⟩)
   · have i2:¬(((s.size-1:Nat):Int)+2≤(s.size:Int)):=by omega
     have i3:s.size-1≤900:=by omega
     have hb1:=hb0.trans (hq.bel.mono (by omega))
     generalize s.size-1=m at *
     go_wp2_with fail
     rw[decide_eq_false (show ¬((m:Int)+2≤(s.size:Int)) by omega)]
     refine(wneed_false _ _).mono ?_
     rintro e w2 ⟨rfl,rfl⟩
     go_wp2
     exact⟨rfl,by rw[HW.out];rfl,hb1⟩
   · go_wp2
     exact⟨rfl,by rw[HW.out];rfl,hb0.trans (hb.mono (by omega))⟩
 | some x=>
   obtain⟨t,n⟩:=x
   have HL:=qsc_len _ _ _ hR
   rw[List.length_drop,hl]at HL
   simp only at HL
   obtain⟨l1,l2⟩:=HL
   rw[hR]at hrun
   have i2:(n:Int)+2≤(s.size:Int):=by omega
   by_cases h60:60<t.length
   · have HW:Hid (_=_):=wQuo_long hR h60
     have i3:¬((t.length:Int)≤60):=by omega
     clear hR hx
     go_enter Tryz.func87,Tryz.ntmps87
     go_wp2_with fail
     refine hrun.mono ?_
     rintro e w1 ⟨rfl,g,hq⟩
     have hb1:=hb0.trans (hq.bel.mono (by omega))
     obtain⟨v,hrow,hown⟩:=hq.row
     obtain⟨q,cp,rfl⟩:=hown.shape
     simp only at hrow
     clear hW0 hc hc0 hc1 hc2
     go_wp2_with fail
     refine(wneed_true _ _).mono ?_
     rintro e w2 ⟨rfl,rfl⟩
     go_wp2_with fail
     rw[decide_eq_false (show ¬((t.length:Int)≤60) by omega)]
     refine(wneed_false _ _).mono ?_
     rintro e w2 ⟨rfl,rfl⟩
     go_wp2
     exact⟨rfl,by rw[HW.out];rfl,hb1⟩
   · have HW:Hid (_=_):=wQuo_ok hR h60
     have i3:(t.length:Int)≤60:=by omega
     clear hR hx
     go_enter Tryz.func87,Tryz.ntmps87
     go_wp2_with fail
     refine hrun.mono ?_
     rintro e w1 ⟨rfl,g,hq⟩
     have hb1:=hb0.trans (hq.bel.mono (by omega))
     obtain⟨v,hrow,hown⟩:=hq.row
     have hconv:=text_of _ _ _ _ hown
     obtain⟨q,cp,rfl⟩:=hown.shape
     simp only at hrow hconv
     have q0:∀o,w1.cell? ⟨w.heap.size,o,none⟩=w0.cell? ⟨w.heap.size,o,none⟩:=fun o=>hq.bel.cell (p:=⟨w.heap.size,o,none⟩) (by simp)
     have qf:∀o,w1.frozen? ⟨w.heap.size,o,none⟩=false:=fun o=>(hq.bel.frozen (p:=⟨w.heap.size,o,none⟩) (by simp)).trans (hc o)
     have d0:=(q0 0).trans hc0
     have d1:=(q0 1).trans hc1
     have d2:=(q0 2).trans hc2
     have f0:=qf 0
     have f1:=qf 1
     have f2:=qf 2
     have hsz:=hq.size
     clear hW0 hc hc0 hc1 hc2 q0 qf
     go_wp2_with fail
     refine(wneed_true _ _).mono ?_
     rintro e w2 ⟨rfl,rfl⟩
     go_wp2_with fail
     refine(wneed_true _ _).mono ?_
     rintro e w2 ⟨rfl,rfl⟩
     go_wp2
     refine bodyPost_ret (v:=.tuple #[.agg #[.int .i64 3,.string ⟨t.toArray⟩,.int .i64 0],.int .i64 ((n:Int)+2)]) (by simp[results,Tryz.results87,go_sem,d0,d1,d2]) rfl ⟨by rw[HW.out];rfl,?_⟩
     exact((hb1.setCell (Nat.le_refl _) _).setCell (Nat.le_refl _) _).setCell (Nat.le_refl _) _
theorem of_list {a:ByteArray}{l:List UInt8}(h:a.data.toList=l):a=⟨l.toArray⟩:=by
 rw[←h]
theorem head_take (s:ByteArray)(n:Nat):(s.extract 0 n).data.toList=s.data.toList.take n:=by
 rw[Lib.extract_data];simp
theorem below_draws {B:Nat}{a w:World}(h:Below B a w)(n:Nat):Below B a (w.drewN n):=⟨h.os,h.tape,h.output,h.size,h.block⟩
theorem wName_ok {k:Int}{m:Nat}{l:List UInt8}(h:nfault (l.takeWhile namb)=0):wName k m l= .ok (k,l.takeWhile namb,m+(l.takeWhile namb).length):=if_pos h
theorem wName_bad {k:Int}{m:Nat}{l:List UInt8}(h:nfault (l.takeWhile namb)≠0):wName k m l= .error (nfault (l.takeWhile namb)):=if_neg h
theorem tok_kept {w w1:World}(hb:Below (w.alloc (.cells #[.int .i64 0,.string ⟨#[]⟩,.int .i64 0] 78)).heap.size (w.alloc (.cells #[.int .i64 0,.string ⟨#[]⟩,.int .i64 0] 78)) w1):
 w1.cell? ⟨w.heap.size,0,none⟩=some (.int .i64 0)∧w1.cell? ⟨w.heap.size,1,none⟩=some (.string ⟨#[]⟩)∧w1.cell? ⟨w.heap.size,2,none⟩=some (.int .i64 0)∧
 w1.frozen? ⟨w.heap.size,0,none⟩=false∧w1.frozen? ⟨w.heap.size,1,none⟩=false∧w1.frozen? ⟨w.heap.size,2,none⟩=false∧Below w.heap.size w w1:=by
 have q0:∀o,w1.cell? ⟨w.heap.size,o,none⟩=_:=fun o=>hb.cell (p:=⟨w.heap.size,o,none⟩) (by simp)
 have qf:∀o,w1.frozen? ⟨w.heap.size,o,none⟩=_:=fun o=>hb.frozen (p:=⟨w.heap.size,o,none⟩) (by simp)
 exact⟨(q0 0).trans (by simp[go_sem]),(q0 1).trans (by simp[go_sem]),(q0 2).trans (by simp[go_sem]),(qf 0).trans (by simp[go_sem]),(qf 1).trans (by simp[go_sem]),(qf 2).trans (by simp[go_sem]),
  ((Below.refl _ _).alloc (Nat.le_refl _) _).trans (hb.mono (by simp))⟩
end Go.Proofs.YtjkepjbfgeldnaaGreatDoor
