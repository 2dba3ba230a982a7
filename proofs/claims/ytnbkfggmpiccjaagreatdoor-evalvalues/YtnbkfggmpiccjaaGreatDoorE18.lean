import Derived.Test.YtnbkfggmpiccjaaGreatDoorE17
import Derived.Test.YtnbkfggmpiccjaaGreatDoorE9
import Derived.Deep.QuietTactic
import Derived.BigQuiet
import Derived.Lib.Strings
set_option linter.unusedVariables false
set_option maxHeartbeats 12000000
namespace Go.Proofs.YtnbkfggmpiccjaaGreatDoor
open Go.RowKit
theorem likeCheck_any (s:ByteArray)(w:World)(hs:s.size≤maxLen):
 Calls Tryz.prog 154 #[.string s] w fun e w'=>e= .returned (eV (tfault s.data.toList))∧Below w.heap.size w w':=by
 go_enter Tryz.func154,Tryz.ntmps154
 go_wp2_with fail
 refine(quoteN_any s _ hs).mono ?_
 rintro e w1 ⟨q,hq,rfl,hb⟩
 generalize hv:eV (tfault s.data.toList)=v
 have HV:Hid (_=_):=hv
 clear hv
 go_wp2_with fail
 go_ret
 exact⟨by rw[HV.out];rfl,hb⟩
theorem drop_get (s:ByteArray)(k:Nat)(h:k<s.size):s.data.toList.drop k=s[k]::s.data.toList.drop (k+1):=by
 rw[List.drop_eq_getElem_cons (by simpa using h)];rfl
theorem drop_out (s:ByteArray)(k:Nat)(h:s.size≤k):s.data.toList.drop k=[]:=List.drop_of_length_le (by simpa using h)
theorem read_guard (s:ByteArray)(k:Nat)(h:k+1<s.size)(h1:s[k].toNat=92)(h2:s[k+1].toNat=42):pcs (s.data.toList.drop k)=(false,42)::pcs (s.data.toList.drop (k+2)):=by
 rw[drop_get s k (by omega),drop_get s (k+1) h,show s[k]=92 from byte_same h1,show s[k+1]=42 from byte_same h2,pcs_guard]
theorem read_star (s:ByteArray)(k:Nat)(h:k<s.size)(h1:s[k].toNat=42):pcs (s.data.toList.drop k)=(true,0)::pcs (s.data.toList.drop (k+1)):=by
 rw[drop_get s k h,show s[k]=42 from byte_same h1,pcs_star]
theorem read_plain (s:ByteArray)(k:Nat)(h:k<s.size)(h1:s[k].toNat≠42)(h2:s[k].toNat=92→(hk:k+1<s.size)→s[k+1].toNat≠42):pcs (s.data.toList.drop k)=(false,s[k])::pcs (s.data.toList.drop (k+1)):=by
 rw[drop_get s k h,pcs_plain _ _ h1]
 intro h92 hh
 by_cases hk:k+1<s.size
 · rw[drop_get s (k+1) hk]at hh
   have:s[k+1]=42:=by simpa using hh
   exact h2 h92 hk (by rw[this];rfl)
 · rw[drop_out s (k+1) (by omega)]at hh
   cases hh
theorem acc_pcs {l:List UInt8}{acc r:List Pc}(h:acc++r=pcs l):acc.length+r.length≤l.length:=by
 have:=pcs_len l
 rw[←h,List.length_append]at this
 exact this
theorem pieces_any (s:ByteArray)(w:World)(hs:s.size≤60):
 Calls Tryz.prog 156 #[.string s] w fun e w'=>∃v,e= .returned v∧OP w' w.heap.size v (pcs s.data.toList)∧Below w.heap.size w w':=by
 go_enter Tryz.func156,Tryz.ntmps156
 go_wp2
 go_loopw [3,4] (fun v i wr=>∃(k:Nat) (acc:List Pc),k≤s.size∧i= .int .i64 k∧OP wr w.heap.size v acc∧Hid (acc++pcs (s.data.toList.drop k)=pcs s.data.toList)∧Below w.heap.size w wr) (fun _ i _=>s.size-(intOf i).toNat)
 case atStart=>exact⟨0,[],Nat.zero_le _,rfl,OP.nil _ _,rfl,Below.refl _ _⟩
 case round=>
  obtain⟨k,acc,hk,rfl,hown,HA,hnx⟩:=hrel
  have hsz:=hnx.size
  have hac:acc.length≤60:=by
   have h1:=acc_pcs HA.out
   have h2:s.data.toList.length=s.size:=by simp
   omega
  by_cases hlt:k<s.size
  · have i1:(k:Int)<(s.size:Int):=by omega
    by_cases c92:s[k].toNat=92
    · have b92:((s[k].toNat:Int) == 92)=true:=by simpa using(by omega:(s[k].toNat:Int)=92)
      have b42:((s[k].toNat:Int) == 42)=false:=by simpa using(by omega:¬(s[k].toNat:Int)=42)
      by_cases hl2:k+1<s.size
      · have i2:(k:Int)+1<(s.size:Int):=by omega
        by_cases d42:s[k+1].toNat=42
        · have bd:((s[k+1].toNat:Int) == 42)=true:=by simpa using(by omega:(s[k+1].toNat:Int)=42)
          have HA2:Hid ((acc++[(false,42)])++pcs (s.data.toList.drop (k+2))=pcs s.data.toList):=by
           have h:=HA.out;rw[read_guard s k hl2 c92 d42]at h;rw[←h];show _=_;simp
          clear HA c92 d42
          go_wp2_with (at_builtin;refine append_piece _ rfl (.tmp 31) (.tmp 33) rfl w.heap.size _ _ rfl hown _ _ 42 rfl rfl (by omega) hsz ?_;intro v1 w1 hown1 hb1)
          go_roundw
          case rel=>exact⟨k+2,_,by omega,by go_num,hown1,HA2,hnx.trans hb1⟩
          case measure=>simp[intOf];omega
        · have bd:((s[k+1].toNat:Int) == 42)=false:=by simpa using(by omega:¬(s[k+1].toNat:Int)=42)
          have HA2:Hid ((acc++[(false,s[k])])++pcs (s.data.toList.drop (k+1))=pcs s.data.toList):=by
           have h:=HA.out;rw[read_plain s k hlt (by omega) (fun _ _=>d42)]at h;rw[←h];show _=_;simp
          clear HA c92 d42
          go_wp2_with (at_builtin;refine append_piece _ rfl (.tmp 43) (.tmp 48) rfl w.heap.size _ _ rfl hown _ _ s[k] rfl rfl (by omega) hsz ?_;intro v1 w1 hown1 hb1)
          go_roundw
          case rel=>exact⟨k+1,_,by omega,by go_num,hown1,HA2,hnx.trans hb1⟩
          case measure=>simp[intOf];omega
      · have i2:¬(k:Int)+1<(s.size:Int):=by omega
        have HA2:Hid ((acc++[(false,s[k])])++pcs (s.data.toList.drop (k+1))=pcs s.data.toList):=by
         have h:=HA.out;rw[read_plain s k hlt (by omega) (fun _ hk=>absurd hk hl2)]at h;rw[←h];show _=_;simp
        clear HA c92
        go_wp2_with (at_builtin;refine append_piece _ rfl (.tmp 43) (.tmp 48) rfl w.heap.size _ _ rfl hown _ _ s[k] rfl rfl (by omega) hsz ?_;intro v1 w1 hown1 hb1)
        go_roundw
        case rel=>exact⟨k+1,_,by omega,by go_num,hown1,HA2,hnx.trans hb1⟩
        case measure=>simp[intOf];omega
    · have b92:((s[k].toNat:Int) == 92)=false:=by simpa using(by omega:¬(s[k].toNat:Int)=92)
      by_cases c42:s[k].toNat=42
      · have b42:((s[k].toNat:Int) == 42)=true:=by simpa using(by omega:(s[k].toNat:Int)=42)
        have HA2:Hid ((acc++[(true,0)])++pcs (s.data.toList.drop (k+1))=pcs s.data.toList):=by
         have h:=HA.out;rw[read_star s k hlt c42]at h;rw[←h];show _=_;simp
        clear HA c92 c42
        go_wp2_with (at_builtin;refine append_piece _ rfl (.tmp 39) (.tmp 41) rfl w.heap.size _ _ rfl hown _ _ 0 rfl rfl (by omega) hsz ?_;intro v1 w1 hown1 hb1)
        go_roundw
        case rel=>exact⟨k+1,_,by omega,by go_num,hown1,HA2,hnx.trans hb1⟩
        case measure=>simp[intOf];omega
      · have b42:((s[k].toNat:Int) == 42)=false:=by simpa using(by omega:¬(s[k].toNat:Int)=42)
        have HA2:Hid ((acc++[(false,s[k])])++pcs (s.data.toList.drop (k+1))=pcs s.data.toList):=by
         have h:=HA.out;rw[read_plain s k hlt c42 (fun h _=>absurd h c92)]at h;rw[←h];show _=_;simp
        clear HA c92 c42
        go_wp2_with (at_builtin;refine append_piece _ rfl (.tmp 43) (.tmp 48) rfl w.heap.size _ _ rfl hown _ _ s[k] rfl rfl (by omega) hsz ?_;intro v1 w1 hown1 hb1)
        go_roundw
        case rel=>exact⟨k+1,_,by omega,by go_num,hown1,HA2,hnx.trans hb1⟩
        case measure=>simp[intOf];omega
  · have i1:¬(k:Int)<(s.size:Int):=by omega
    have HE:Hid (acc=pcs s.data.toList):=by
     have h:=HA.out;rw[drop_out s k (by omega),pcs,List.append_nil]at h;exact h
    clear HA
    go_wp2
    go_ret
    exact⟨_,rfl,by rw[←HE.out];exact hown,hnx⟩
theorem take_get {α :Type}(l:List α)(k:Nat)(h:k<l.length):l.take (k+1)=l.take k++[l[k]]:=List.take_succ_eq_append_getElem h
def gw (f:Nat→Bool)(i j:Nat):Bool:=if j<i then por f j else f j
theorem gw_step (f:Nat→Bool)(i:Nat)(h:1≤i)(j:Nat):(if j=i then(gw f i i || gw f i (i-1))else gw f i j)=gw f (i+1) j:=by
 have e1:gw f i i=f i:=by unfold gw;rw[if_neg (by omega)]
 have e2:gw f i (i-1)=por f (i-1):=by unfold gw;rw[if_pos (by omega)]
 by_cases hj:j=i
 · subst hj
   rw[if_pos rfl,e1,e2]
   unfold gw
   rw[if_pos (by omega)]
   have:=por_succ f (j-1)
   rw[show j-1+1=j by omega]at this
   exact this.symm
 · rw[if_neg hj]
   unfold gw
   by_cases h2:j<i
   · rw[if_pos h2,if_pos (by omega)]
   · rw[if_neg h2,if_neg (by omega)]
theorem gw_start (f:Nat→Bool)(j:Nat):f j=gw f 1 j:=by
 unfold gw
 by_cases h:j<1
 · obtain rfl:j=0:=by omega
   rw[if_pos h,por_zero]
 · rw[if_neg h]
theorem growWild_any (g n:Nat)(f:Nat→Bool)(w:World)(hr:RB w g n f)(h1:1≤n)(hn:n≤1000):
 Calls Tryz.prog 182 #[.slice (some ⟨g,0,none⟩) n n] w fun e w'=>e= .returned (.tuple #[])∧RB w' g n (por f)∧Below g w w':=by
 have HR0:Hid (RB w g n (gw f 1)):=hr.congr fun j _=>gw_start f j
 clear hr
 go_enter Tryz.func182,Tryz.ntmps182
 go_wp2
 go_loopw [2] (fun iv wr=>∃i:Nat,1≤i∧i≤n∧iv= .int .i64 i∧Hid (RB wr g n (gw f i))∧Hid (Below g w wr)) (fun iv _=>n-(intOf iv).toNat)
 case atStart=>exact⟨1,Nat.le_refl _,h1,rfl,HR0,Below.refl _ _⟩
 case round=>
  obtain⟨i,hi1,hi,rfl,HR,HB⟩:=hrel
  by_cases hlt:i<n
  · have i1:(i:Int)<(n:Int):=by omega
    have i2:(1:Int)≤(i:Int):=by omega
    have c1:=HR.out.at hlt
    have c0:=HR.out.at (j:=i-1) (by omega)
    have f1:=HR.out.free i
    have HN:Hid (∀x:Bool,(gw f i i || gw f i (i-1))=x→RB (wr.setCell ⟨g,i,none⟩ (.bool x)) g n (gw f (i+1))):=fun x hx=>(HR.out.set i x).congr fun j _=>by rw[←hx];exact gw_step f i hi1 j
    generalize gw f i i=x1 at c1 HN
    generalize gw f i (i-1)=x0 at c0 HN
    cases x1
    · go_wp2
      go_roundw
      case rel=>exact⟨i+1,by omega,by omega,by go_num,HN.out _ rfl,HB.out.setCell (Nat.le_refl _) _⟩
      case measure=>simp[intOf];omega
    · go_wp2
      go_roundw
      case rel=>exact⟨i+1,by omega,by omega,by go_num,HN.out _ rfl,HB.out.setCell (Nat.le_refl _) _⟩
      case measure=>simp[intOf];omega
  · obtain rfl:i=n:=by omega
    have i1:¬(i:Int)<(i:Int):=by omega
    go_wp2
    go_end0
    exact⟨rfl,HR.out.congr fun j hj=>by unfold gw;rw[if_pos hj],HB.out⟩
def gc (f:Nat→Bool)(l:List UInt8)(c:UInt8)(i j:Nat):Bool:=if i<j then(f (j-1) && l.getD (j-1) 0 == c)else f j
theorem gc_step (f:Nat→Bool)(l:List UInt8)(c:UInt8)(i:Nat)(h:1≤i)(j:Nat):(if j=i then(gc f l c i (i-1) && l.getD (i-1) 0 == c)else gc f l c i j)=gc f l c (i-1) j:=by
 have e2:gc f l c i (i-1)=f (i-1):=by unfold gc;rw[if_neg (by omega)]
 by_cases hj:j=i
 · subst hj
   rw[if_pos rfl,e2]
   unfold gc
   rw[if_pos (by omega)]
 · rw[if_neg hj]
   unfold gc
   by_cases h2:i<j
   · rw[if_pos h2,if_pos (by omega)]
   · rw[if_neg h2,if_neg (by omega)]
def gcd (f:Nat→Bool)(l:List UInt8)(c:UInt8)(j:Nat):Bool:=decide (0<j) && (f (j-1) && l.getD (j-1) 0 == c)
theorem gc_done (f:Nat→Bool)(l:List UInt8)(c:UInt8)(j:Nat):(if j=0 then false else gc f l c 0 j)=gcd f l c j:=by
 unfold gcd gc
 by_cases h:j=0
 · subst h;rfl
 · rw[if_neg h,if_pos (by omega),decide_eq_true (by omega),Bool.true_and]
theorem getD_byte (s:ByteArray)(k:Nat)(h:k<s.size):s.data.toList.getD k 0=s[k]:=by
 have:k<s.data.toList.length:=by simpa using h
 rw[List.getD_eq_getElem?_getD,List.getElem?_eq_getElem this];rfl
theorem growChar_any (g:Nat)(f:Nat→Bool)(s:ByteArray)(c:UInt8)(w:World)(hr:RB w g (s.size+1) f)(hn:s.size≤1000):
 Calls Tryz.prog 183 #[.slice (some ⟨g,0,none⟩) (s.size+1) (s.size+1),.string s,.int .u8 (c.toNat:Int)] w fun e w'=>e= .returned (.tuple #[])∧RB w' g (s.size+1) (gcd f s.data.toList c)∧Below g w w':=by
 have HR0:Hid (RB w g (s.size+1) (gc f s.data.toList c s.size)):=hr.congr fun j hj=>by unfold gc;rw[if_neg (by omega)]
 clear hr
 go_enter Tryz.func183,Tryz.ntmps183
 go_wp2
 go_loopw [6] (fun iv wr=>∃i:Nat,i≤s.size∧iv= .int .i64 i∧Hid (RB wr g (s.size+1) (gc f s.data.toList c i))∧Hid (Below g w wr)) (fun iv _=>(intOf iv).toNat)
 case atStart=>exact⟨s.size,Nat.le_refl _,rfl,HR0,Below.refl _ _⟩
 case round=>
  obtain⟨i,hi,rfl,HR,HB⟩:=hrel
  by_cases hlt:0<i
  · have i1:(0:Int)<(i:Int):=by omega
    have i2:(1:Int)≤(i:Int):=by omega
    have i3:(i:Int)≤(s.size:Int):=by omega
    have hks:i-1<s.size:=by omega
    have c1:=HR.out.at (j:=i) (by omega)
    have c0:=HR.out.at (j:=i-1) (by omega)
    have f1:=HR.out.free i
    have HN:Hid (∀x:Bool,(gc f s.data.toList c i (i-1) && s[i-1] == c)=x→RB (wr.setCell ⟨g,i,none⟩ (.bool x)) g (s.size+1) (gc f s.data.toList c (i-1))):=fun x hx=>(HR.out.set i x).congr fun j _=>by rw[←hx,←getD_byte s (i-1) hks];exact gc_step f _ c i hlt j
    generalize gc f s.data.toList c i i=x1 at c1
    generalize gc f s.data.toList c i (i-1)=x0 at c0 HN
    have HC:Hid ((s[i-1] == c)=((s[i-1].toNat:Int) == (c.toNat:Int))):=by
     show _=_
     rw[Bool.eq_iff_iff]
     simp only[beq_iff_eq]
     constructor
     · intro h;rw[h]
     · intro h;exact byte_same (by omega)
    cases x0
    · clear HC
      go_wp2
      go_roundw
      case rel=>exact⟨i-1,by omega,by go_num,HN.out _ rfl,HB.out.setCell (Nat.le_refl _) _⟩
      case measure=>simp[intOf];omega
    · rw[HC.out]at HN
      go_wp2
      go_roundw
      case rel=>exact⟨i-1,by omega,by go_num,HN.out _ rfl,HB.out.setCell (Nat.le_refl _) _⟩
      case measure=>simp[intOf];omega
  · obtain rfl:i=0:=by omega
    have i1:¬(0:Int)<0:=by omega
    have c1:=HR.out.at (j:=0) (by omega)
    have f1:=HR.out.free 0
    have HN:Hid (RB (wr.setCell ⟨g,0,none⟩ (.bool false)) g (s.size+1) (gcd f s.data.toList c)):=(HR.out.set 0 false).congr fun j _=>gc_done f _ c j
    generalize gc f s.data.toList c 0 0=x1 at c1
    go_wp2
    go_end0
    exact⟨rfl,HN.out,HB.out.setCell (Nat.le_refl _) _⟩
def fm (ps:List Pc)(l:List UInt8)(k j:Nat):Bool:=pM (ps.take k) (l.take j)
theorem fm_start (ps:List Pc)(l:List UInt8)(j:Nat)(h:j<l.length+1):(if j=0 then true else false)=fm ps l 0 j:=by
 unfold fm
 rw[List.take_zero]
 show _=(l.take j).isEmpty
 by_cases e:j=0
 · subst e;simp
 · rw[if_neg e]
   have:(l.take j).length≠0:=by rw[List.length_take];omega
   cases hl:l.take j with
   | nil=>rw[hl]at this;simp at this
   | cons a b=>rfl
theorem fm_wild (ps:List Pc)(l:List UInt8)(k:Nat)(hk:k<ps.length)(h:ps[k].1=true)(j:Nat)(hj:j<l.length+1):por (fm ps l k) j=fm ps l (k+1) j:=by
 unfold fm
 rw[take_get ps k hk,M_wild _ _ h l j (by omega)]
theorem fm_char (ps:List Pc)(l:List UInt8)(k:Nat)(hk:k<ps.length)(h:ps[k].1=false)(j:Nat)(hj:j<l.length+1):gcd (fm ps l k) l ps[k].2 j=fm ps l (k+1) j:=by
 unfold gcd fm
 rw[take_get ps k hk]
 match j,hj with
 | 0,_=>rw[List.take_zero,M_char_nil _ _ h];rfl
 | j+1,hj=>
   have hj':j<l.length:=by omega
   rw[take_get l j hj',M_char _ _ h,decide_eq_true (by omega),Bool.true_and,Nat.add_sub_cancel]
   congr 2
   rw[List.getD_eq_getElem?_getD,List.getElem?_eq_getElem hj'];rfl
theorem fits_any (ps:List Pc)(p:Option Addr)(c:Nat)(s:ByteArray)(w:World)(hp:PL w p ps)(h60:ps.length≤1000)(hs:s.size≤900):
 Calls Tryz.prog 155 #[.slice p ps.length c,.string s] w fun e w'=>e= .returned (.bool (pM ps s.data.toList))∧Below w.heap.size w w':=by
 obtain⟨i0,hi,hz0,hz1,hz2⟩:=info_parts Tryz.infoBool
 have HP:Hid (PL w p ps):=hp
 clear hp
 have hln:s.data.toList.length=s.size:=by simp
 have HL:Hid (s.data.toList.length=s.size):=hln
 clear hln
 have hb32:i0.bytes*(s.size+1)≤281474976710656:=by rw[hz2];omega
 go_enter Tryz.func155,Tryz.ntmps155
 go_wp2_with (first
  | (at_make;refine wpList_make_full _ rfl _ _ 136 rfl w.heap.size 4 i0 _ 1 Tryz.underlying136 hi hz0 hz1 .i64 .i64 _ _ (s.size+1) rfl rfl (by first | rfl | omega) (by first | rfl | omega) hb32 (by unfold maxLen;omega) (Nat.le_refl _) ?_;intro w1 hown hg1;have hR0:=RB.made hown;have c0:=hR0.at (j:=0) (by omega);have f0:=hR0.free 0;have HR0:Hid (RB w1 w.heap.size (s.size+1) (fun _=>false)):=hR0;have HB1:Hid (Below w.heap.size w w1):=⟨hg1.os,hg1.tape,hg1.output,hg1.size,fun i hi=>hg1.block i hi (by simp)⟩;clear hown hR0 hg1)
  | go_in)
 go_loopw [16] (fun iv wr=>∃k:Nat,k≤ps.length∧iv= .int .i64 k∧Hid (RB wr w.heap.size (s.size+1) (fm ps s.data.toList k))∧Hid (Below w.heap.size w wr)) (fun iv _=>ps.length-(intOf iv).toNat)
 case atStart=>exact⟨0,Nat.zero_le _,rfl,(HR0.out.set 0 true).congr fun j hj=>fm_start ps _ j (by rw[HL.out];exact hj),HB1.out.setCell (Nat.le_refl _) _⟩
 case round=>
  obtain⟨k,hk,rfl,HR,HB⟩:=hrel
  by_cases hlt:k<ps.length
  · have i1:(k:Int)<(ps.length:Int):=by omega
    have hsz:=HB.out.size
    obtain⟨b,off,rfl,hbl,g0,g1⟩:=HP.out.at hlt
    have y0:=(HB.out.cell (p:=⟨b,off+k*2,none⟩) hbl).trans g0
    have y1:=(HB.out.cell (p:=⟨b,off+k*2+1,none⟩) hbl).trans g1
    have HW:Hid (ps[k].1=true→∀j,j<s.size+1→por (fm ps s.data.toList k) j=fm ps s.data.toList (k+1) j):=fun h j hj=>fm_wild ps _ k hlt h j (by rw[HL.out];exact hj)
    have HC:Hid (ps[k].1=false→∀j,j<s.size+1→gcd (fm ps s.data.toList k) s.data.toList ps[k].2 j=fm ps s.data.toList (k+1) j):=fun h j hj=>fm_char ps _ k hlt h j (by rw[HL.out];exact hj)
    clear g0 g1
    generalize ps[k]=x at y0 y1 HW HC
    obtain⟨x1,x2⟩:=x
    have HR2:Hid (RB (wr.alloc (.cells #[.bool x1,.int .u8 (x2.toNat:Int)] 228)) w.heap.size (s.size+1) (fm ps s.data.toList k)):=HR.out.up ((Below.refl wr.heap.size wr).alloc (Nat.le_refl _) _) HR.out.lt
    have HB2:Hid (Below w.heap.size w (wr.alloc (.cells #[.bool x1,.int .u8 (x2.toNat:Int)] 228))):=HB.out.alloc hsz _
    cases x1
    · have HC2:=HC.out rfl
      have HC3:Hid (∀j,j<s.size+1→gcd (fm ps s.data.toList k) s.data.toList x2 j=fm ps s.data.toList (k+1) j):=HC2
      clear HC2 HW HC
      go_wp2_with fail
      refine(growChar_any w.heap.size _ s x2 _ HR2.out (by omega)).mono ?_
      rintro e w2 ⟨rfl,hr2,hb2⟩
      have HR3:Hid (RB w2 w.heap.size (s.size+1) (fm ps s.data.toList (k+1))):=hr2.congr HC3.out
      have HB3:Hid (Below w.heap.size w w2):=HB2.out.trans hb2
      clear hr2 hb2
      go_wp2_with fail
      go_roundw
      case rel=>exact⟨k+1,by omega,by go_num,HR3,HB3⟩
      case measure=>simp[intOf];omega
    · have HC2:=HW.out rfl
      have HC3:Hid (∀j,j<s.size+1→por (fm ps s.data.toList k) j=fm ps s.data.toList (k+1) j):=HC2
      clear HC2 HW HC
      go_wp2_with fail
      refine(growWild_any w.heap.size _ _ _ HR2.out (by omega) (by omega)).mono ?_
      rintro e w2 ⟨rfl,hr2,hb2⟩
      have HR3:Hid (RB w2 w.heap.size (s.size+1) (fm ps s.data.toList (k+1))):=hr2.congr HC3.out
      have HB3:Hid (Below w.heap.size w w2):=HB2.out.trans hb2
      clear hr2 hb2
      go_wp2_with fail
      go_roundw
      case rel=>exact⟨k+1,by omega,by go_num,HR3,HB3⟩
      case measure=>simp[intOf];omega
  · obtain rfl:k=ps.length:=by omega
    have i1:¬(ps.length:Int)<(ps.length:Int):=by omega
    have y0:=HR.out.at (j:=s.size) (by omega)
    have i3:(s.size:Int)<(s.size:Int)+1:=by omega
    have HE:Hid (fm ps s.data.toList ps.length s.size=pM ps s.data.toList):=by
     show _=_
     unfold fm
     rw[List.take_length,List.take_of_length_le (by rw[HL.out];exact Nat.le_refl _)]
    rw[HE.out]at y0
    go_wp2_with fail
    go_ret
    exact⟨rfl,HB.out⟩
theorem text_size {s:ByteArray}(h:textOk s.data.toList=true):s.size≤60:=by
 unfold textOk at h
 rw[Bool.and_eq_true,decide_eq_true_eq]at h
 simpa using h.1
def mfault (p s:List UInt8):Int:=if tfault p=0 then tfault s else tfault p
theorem belt {a b c:World}(h:Below a.heap.size a b)(k:Below b.heap.size b c):Below a.heap.size a c:=h.trans (k.mono h.size)
theorem match_ok (p s:ByteArray)(w:World)(hp:textOk p.data.toList=true)(hs:textOk s.data.toList=true):
 Calls Tryz.prog 120 #[.string p,.string s] w fun e w'=>e= .returned (.tuple #[.bool (pM (pcs p.data.toList) s.data.toList),.nilIface])∧Below w.heap.size w w':=by
 have hp6:=text_size hp
 have hs6:=text_size hs
 have HE:Hid (eV (tfault p.data.toList)= .nilIface):=eV_nil (tfault_ok hp)
 have HF:Hid (eV (tfault s.data.toList)= .nilIface):=eV_nil (tfault_ok hs)
 have hl:(pcs p.data.toList).length≤60:=by
  have h1:=pcs_len p.data.toList
  have h2:p.data.toList.length=p.size:=by simp
  omega
 clear hp hs
 go_enter Tryz.func120,Tryz.ntmps120
 go_wp2_with fail
 refine(likeCheck_any p _ (by unfold maxLen;omega)).mono ?_
 rintro e w1 ⟨rfl,hb1⟩
 rw[HE.out]
 go_wp2_with fail
 refine(likeCheck_any s _ (by unfold maxLen;omega)).mono ?_
 rintro e w2 ⟨rfl,hb2'⟩
 have hb2:=belt hb1 hb2'
 rw[HF.out]
 go_wp2_with fail
 refine(pieces_any p _ hp6).mono ?_
 rintro e w3 ⟨v,rfl,hown,hb3'⟩
 have hb3:=belt hb2 hb3'
 obtain⟨q,c,rfl,hq,_⟩:=hown.slice
 go_wp2_with fail
 refine(fits_any (pcs p.data.toList) q c s _ hq (by omega) (by omega)).mono ?_
 rintro e w4 ⟨rfl,hb4'⟩
 have hb4:=belt hb3 hb4'
 go_wp2_with fail
 go_ret2
 exact⟨rfl,hb4⟩
theorem stat_two (s:ByteArray)(k:Nat)(h:k+1<s.size):stat (s.data.toList.drop k)=(s[k].toNat == 92 && s[k+1].toNat == 42):=by
 rw[drop_get s k (by omega),drop_get s (k+1) h];rfl
theorem stat_one (s:ByteArray)(k:Nat)(h:k<s.size)(h1:¬k+1<s.size):stat (s.data.toList.drop k)=false:=by
 rw[drop_get s k h,drop_out s (k+1) (by omega)];rfl
theorem stat_not (s:ByteArray)(k:Nat)(h:k<s.size)(h1:s[k].toNat≠92):stat (s.data.toList.drop k)=false:=by
 by_cases h2:k+1<s.size
 · rw[stat_two s k h2];simp[h1]
 · exact stat_one s k h h2
theorem star_any (s:ByteArray)(k:Nat)(w:World)(hs:s.size≤1000)(hk:k<s.size):
 Calls Tryz.prog 85 #[.string s,.int .i64 (k:Int)] w fun e w'=>e= .returned (.bool (stat (s.data.toList.drop k)))∧w'=w:=by
 have i1:(k:Int)<(s.size:Int):=by omega
 by_cases c92:s[k].toNat=92
 · have b92:((s[k].toNat:Int) == 92)=true:=by simpa using(by omega:(s[k].toNat:Int)=92)
   by_cases hl2:k+1<s.size
   · have i2:(k:Int)+1<(s.size:Int):=by omega
     have HS:Hid (stat (s.data.toList.drop k)=((s[k+1].toNat:Int) == 42)):=by
      show _=_
      rw[stat_two s k hl2,c92]
      rw[Bool.eq_iff_iff];simp;omega
     clear c92
     go_enter Tryz.func85,Tryz.ntmps85
     go_wp2
     go_ret
     exact⟨ret_bool HS.out.symm,rfl⟩
   · have i2:¬(k:Int)+1<(s.size:Int):=by omega
     have HS:Hid (_=_):=stat_one s k hk hl2
     clear c92
     go_enter Tryz.func85,Tryz.ntmps85
     go_wp2
     go_ret
     exact⟨ret_bool HS.out.symm,rfl⟩
 · have b92:((s[k].toNat:Int) == 92)=false:=by simpa using(by omega:¬(s[k].toNat:Int)=92)
   have HS:Hid (_=_):=stat_not s k hk c92
   clear c92
   go_enter Tryz.func85,Tryz.ntmps85
   go_wp2
   go_ret
   exact⟨ret_bool HS.out.symm,rfl⟩
theorem sts_step (s:ByteArray)(k:Nat)(h:k<s.size):sts (s.data.toList.drop k) k=k::sts (s.data.toList.drop (k+psz (s.data.toList.drop k))) (k+psz (s.data.toList.drop k)):=by
 have hne:s.data.toList.drop k≠[]:=by rw[drop_get s k h];simp
 rw[sts_cons hne,List.drop_drop]
theorem psz_star {l:List UInt8}(h:stat l=true):psz l=2:=if_pos h
theorem psz_plain {l:List UInt8}(h:stat l=false):psz l=1:=by unfold psz;rw[h];rfl
theorem acc_sts {l:List UInt8}{acc r:List Nat}(h:acc++r=sts l 0):acc.length+r.length≤l.length:=by
 have:=pcs_len l
 rw[←sts_length l 0,←h,List.length_append]at this
 exact this
theorem stat_room (s:ByteArray)(k:Nat)(h:k<s.size)(hs:stat (s.data.toList.drop k)=true):k+1<s.size:=by
 by_cases h2:k+1<s.size
 · exact h2
 · rw[stat_one s k h h2]at hs;cases hs
theorem starts_any (s:ByteArray)(w:World)(hs:s.size≤60):
 Calls Tryz.prog 84 #[.string s] w fun e w'=>∃v,e= .returned v∧OI w' w.heap.size v (sts s.data.toList 0)∧Below w.heap.size w w':=by
 go_enter Tryz.func84,Tryz.ntmps84
 go_wp2
 go_loopw [3,4] (fun v i wr=>∃(k:Nat) (acc:List Nat),k≤s.size∧i= .int .i64 k∧OI wr w.heap.size v acc∧Hid (acc++sts (s.data.toList.drop k) k=sts s.data.toList 0)∧Below w.heap.size w wr) (fun _ i _=>s.size-(intOf i).toNat)
 case atStart=>exact⟨0,[],Nat.zero_le _,rfl,OI.nil _ _,rfl,Below.refl _ _⟩
 case round=>
  obtain⟨k,acc,hk,rfl,hown,HA,hnx⟩:=hrel
  have hsz:=hnx.size
  have hac:acc.length≤60:=by
   have h1:=acc_sts HA.out
   have h2:s.data.toList.length=s.size:=by simp
   omega
  by_cases hlt:k<s.size
  · have i1:(k:Int)<(s.size:Int):=by omega
    have HS:=sts_step s k hlt
    cases hst:stat (s.data.toList.drop k)
    · rw[psz_plain hst]at HS
      have HA2:Hid ((acc++[k])++sts (s.data.toList.drop (k+1)) (k+1)=sts s.data.toList 0):=by
       have h:=HA.out;rw[HS]at h;rw[←h];show _=_;simp
      have HT:Hid (stat (s.data.toList.drop k)=false):=hst
      clear HA HS hst
      go_wp2_with (first
       | (at_builtin;refine append_int _ rfl (.tmp 11) (.tmp 13) rfl w.heap.size _ _ rfl hown _ k rfl rfl (by omega) hsz ?_;intro v1 w1 hown1 hb1)
       | (go_at_call 85;refine(star_any s k _ (by omega) hlt).mono ?_;rintro e w2 ⟨rfl,rfl⟩;rw[HT.out]))
      go_roundw
      case rel=>exact⟨k+1,_,by omega,by go_num,hown1,HA2,hnx.trans hb1⟩
      case measure=>simp[intOf];omega
    · rw[psz_star hst]at HS
      have hrm:=stat_room s k hlt hst
      have HA2:Hid ((acc++[k])++sts (s.data.toList.drop (k+2)) (k+2)=sts s.data.toList 0):=by
       have h:=HA.out;rw[HS]at h;rw[←h];show _=_;simp
      have HT:Hid (stat (s.data.toList.drop k)=true):=hst
      clear HA HS hst
      go_wp2_with (first
       | (at_builtin;refine append_int _ rfl (.tmp 11) (.tmp 13) rfl w.heap.size _ _ rfl hown _ k rfl rfl (by omega) hsz ?_;intro v1 w1 hown1 hb1)
       | (go_at_call 85;refine(star_any s k _ (by omega) hlt).mono ?_;rintro e w2 ⟨rfl,rfl⟩;rw[HT.out]))
      go_roundw
      case rel=>exact⟨k+2,_,by omega,by go_num,hown1,HA2,hnx.trans hb1⟩
      case measure=>simp[intOf];omega
  · have i1:¬(k:Int)<(s.size:Int):=by omega
    have HE:Hid (acc=sts s.data.toList 0):=by
     have h:=HA.out;rw[drop_out s k (by omega),sts,List.append_nil]at h;exact h
    clear HA
    go_wp2
    go_ret
    exact⟨_,rfl,by rw[←HE.out];exact hown,hnx⟩
theorem pcat_wild (s:ByteArray)(k:Nat)(h:k<s.size):(pcat (s.data.toList.drop k)).1=(s[k].toNat == 42):=by
 have h1:∀c:UInt8,(pc1 c).1=(c.toNat == 42):=fun c=>by
  unfold pc1
  by_cases e:(c.toNat == 42)=true
  · rw[if_pos e,e]
  · rw[if_neg e];simpa using e
 rw[drop_get s k h]
 generalize s.data.toList.drop (k+1)=r
 match r with
 | []=>exact h1 _
 | d::r=>
   rw[pcat_cons]
   cases hg:gst s[k] d
   · exact h1 _
   · unfold gst at hg
     simp only[Bool.and_eq_true,beq_iff_eq]at hg
     rw[hg.1];rfl
theorem pcat_byte (s:ByteArray)(k:Nat)(h:k<s.size)(hn:(s[k].toNat == 42)=false):(pcat (s.data.toList.drop k)).2=if stat (s.data.toList.drop k)then 42 else s[k]:=by
 have h1:∀c:UInt8,(c.toNat == 42)=false→(pc1 c).2=c:=fun c e=>by unfold pc1;rw[if_neg (by rw[e];decide)]
 rw[drop_get s k h]
 generalize s.data.toList.drop (k+1)=r
 match r with
 | []=>exact h1 _ hn
 | d::r=>
   rw[pcat_cons]
   show _=if gst s[k] d then 42 else s[k]
   cases hg:gst s[k] d
   · exact h1 _ hn
   · rfl
theorem piece_at {s:ByteArray}{k a:Nat}(h:(sts s.data.toList 0)[k]? =some a):a<s.size∧(pcs s.data.toList)[k]? =some (pcat (s.data.toList.drop a))∧
 ((sts s.data.toList 0)[k+1]?).getD s.size=a+psz (s.data.toList.drop a)∧a+psz (s.data.toList.drop a)≤s.size∧(pcs s.data.toList).drop k=pcat (s.data.toList.drop a)::(pcs s.data.toList).drop (k+1):=by
 have hl:s.data.toList.length=s.size:=by simp
 obtain⟨h1,h2,h3⟩:=starts_at h
 rw[hl]at h1 h3
 have hne:s.data.toList.drop a≠[]:=by rw[drop_get s a h1];simp
 rw[pcs_cons hne]at h2
 have h4:(pcs s.data.toList)[k]? =some (pcat (s.data.toList.drop a)):=by
  have:=congrArg (fun l:List Pc=>l[0]?) h2
  simp only[List.getElem?_cons_zero,List.getElem?_drop,Nat.add_zero]at this
  exact this.symm
 refine⟨h1,h4,h3,?_,?_⟩
 · have:=psz_le hne
   rw[List.length_drop,hl]at this
   omega
 · obtain⟨hk,e⟩:=List.getElem?_eq_some_iff.1 h4
   rw[List.drop_eq_getElem_cons hk,e]
theorem byte_is42 {c:UInt8}(b:Bool):(c.toNat == 42)=b→((c.toNat:Int) == 42)=b:=fun h=>by
 rw[←h,Bool.eq_iff_iff];simp;omega
def bm (ps:List Pc)(l:List UInt8)(k j:Nat):Bool:=pM (ps.drop k) (l.drop j)
def bmi (ps:List Pc)(l:List UInt8)(k m j:Nat):Bool:=if m≤j then bm ps l k j else false
theorem bm_start (ps:List Pc)(l:List UInt8)(j:Nat)(hj:j<l.length+1):(if j=l.length then true else false)=bm ps l ps.length j:=by
 unfold bm
 rw[List.drop_length]
 show _=(l.drop j).isEmpty
 by_cases e:j=l.length
 · subst e;simp
 · rw[if_neg e]
   cases hl:l.drop j with
   | nil=>
     have:=congrArg List.length hl
     rw[List.length_drop,List.length_nil]at this
     omega
   | cons a b=>rfl
theorem bmi_step (ps:List Pc)(l:List UInt8)(k m:Nat)(b:Bool)(hb:b=bm ps l k m)(j:Nat):(if j=m then b else bmi ps l k (m+1) j)=bmi ps l k m j:=by
 unfold bmi
 by_cases e:j=m
 · subst e;rw[if_pos rfl,if_pos (Nat.le_refl _),hb]
 · rw[if_neg e]
   by_cases h:m≤j
   · rw[if_pos h,if_pos (by omega)]
   · rw[if_neg h,if_neg (by omega)]
theorem bmi_none (ps:List Pc)(l:List UInt8)(k m:Nat)(hb:bm ps l k m=false)(j:Nat):bmi ps l k (m+1) j=bmi ps l k m j:=by
 rw[←bmi_step ps l k m false hb.symm j]
 by_cases e:j=m
 · subst e;rw[if_pos rfl];unfold bmi;rw[if_neg (by omega)]
 · rw[if_neg e]
theorem bm_wild {ps:List Pc}{k:Nat}{x:Pc}(hx:x.1=true)(hd:ps.drop k=x::ps.drop (k+1))(l:List UInt8)(m:Nat)(hm:m<l.length):bm ps l k m=(bm ps l (k+1) m || bm ps l k (m+1)):=by
 unfold bm;rw[hd];exact M_wild_step x hx _ l m hm
theorem bm_wild_end {ps:List Pc}{k:Nat}{x:Pc}(hx:x.1=true)(hd:ps.drop k=x::ps.drop (k+1))(l:List UInt8):bm ps l k l.length=bm ps l (k+1) l.length:=by
 unfold bm;rw[hd,List.drop_length];exact M_wild_end x hx _
theorem bm_char {ps:List Pc}{k:Nat}{x:Pc}(hx:x.1=false)(hd:ps.drop k=x::ps.drop (k+1))(l:List UInt8)(m:Nat)(hm:m<l.length):bm ps l k m=(l[m] == x.2 && bm ps l (k+1) (m+1)):=by
 unfold bm;rw[hd];exact M_char_step x hx _ l m hm
theorem bm_char_end {ps:List Pc}{k:Nat}{x:Pc}(hx:x.1=false)(hd:ps.drop k=x::ps.drop (k+1))(l:List UInt8):bm ps l k l.length=false:=by
 unfold bm;rw[hd,List.drop_length];exact M_char_end x hx _
theorem byte_cmp (c d:UInt8):(c == d)=((c.toNat:Int) == (d.toNat:Int)):=by
 rw[Bool.eq_iff_iff]
 simp only[beq_iff_eq]
 exact⟨fun h=>by rw[h],fun h=>byte_same (by omega)⟩
set_option maxRecDepth 100000 in
theorem refFits_any (p s:ByteArray)(w:World)(hp:p.size≤60)(hs:s.size≤60):
 Calls Tryz.prog 52 #[.string p,.int .i64 0,.string s,.int .i64 0] w fun e w'=>e= .returned (.bool (pM (pcs p.data.toList) s.data.toList))∧Below w.heap.size w w':=by
 obtain⟨i0,hi,hz0,hz1,hz2⟩:=info_parts Tryz.infoBool
 have hb32:i0.bytes*(s.size+1)≤281474976710656:=by rw[hz2];omega
 have HL:Hid (s.data.toList.length=s.size):=by show _=_;simp
 have HLN:Hid ((sts p.data.toList 0).length=(pcs p.data.toList).length):=sts_length _ _
 have hln:(sts p.data.toList 0).length≤60:=by
  have h1:=pcs_len p.data.toList
  have h2:p.data.toList.length=p.size:=by simp
  rw[HLN.out];omega
 have i3:(s.size:Int)<(s.size:Int)+1:=by omega
 go_enter Tryz.func52,Tryz.ntmps52
 go_wp2_with (at_make;refine wpList_make_full _ rfl _ _ 136 rfl w.heap.size 4 i0 _ 1 Tryz.underlying136 hi hz0 hz1 .i64 .i64 _ _ (s.size+1) rfl rfl (by first | rfl | omega) (by first | rfl | omega) hb32 (by unfold maxLen;omega) (Nat.le_refl _) ?_;intro w0 hown hg1;have hR0:=RB.made hown;have c0:=hR0.at (j:=s.size) (by omega);have f0:=hR0.free s.size;have HR0:Hid (RB w0 w.heap.size (s.size+1) (fun _=>false)):=hR0;have HB0:Hid (Below w.heap.size w w0):=⟨hg1.os,hg1.tape,hg1.output,hg1.size,fun i hi=>hg1.block i hi (by simp)⟩;clear hown hR0 hg1)
 refine(starts_any p _ hp).mono ?_
 rintro e w1 ⟨v,rfl,hown,hb1⟩
 obtain⟨q,c,rfl,hq,_,_⟩:=hown.slice
 have HI:Hid (IL w1 q (sts p.data.toList 0)):=hq
 have HR1':=HR0.out.set s.size true
 have HR1:Hid (RB w1 w.heap.size (s.size+1) (bm (pcs p.data.toList) s.data.toList (sts p.data.toList 0).length)):=(HR1'.up hb1 HR1'.lt).congr fun j hj=>by
  rw[HLN.out,←bm_start _ _ j (by rw[HL.out];exact hj),HL.out]
 have HB1:Hid (Below w.heap.size w w1):=(HB0.out.setCell (Nat.le_refl _) _).trans (hb1.mono (by simpa using HB0.out.size))
 clear hown hq hb1 HR1' HR0 HB0 c0 f0
 go_wp2_with fail
 go_loopw [9,11] (fun cv kv wr=>∃(kk g:Nat),kk≤(sts p.data.toList 0).length∧kv= .int .i64 ((kk:Int)-1)∧cv= .slice (some ⟨g,0,none⟩) (s.size+1) (s.size+1)∧Hid (RB wr g (s.size+1) (bm (pcs p.data.toList) s.data.toList kk))∧Hid (Below w1.heap.size w1 wr)) (fun _ kv _=>(intOf kv+1).toNat)
 case atStart=>exact⟨_,w.heap.size,Nat.le_refl _,rfl,rfl,HR1,Below.refl _ _⟩
 case round=>
  obtain⟨kk,g,hkk,rfl,rfl,HR,HB⟩:=hrel
  have HBA:Hid (Below w.heap.size w wr):=HB1.out.trans (HB.out.mono HB1.out.size)
  have hgr:=HR.out.lt
  rcases Nat.eq_zero_or_pos kk with rfl | hkp
  · have i1:¬(0:Int)≤((0:Nat):Int)-1:=by omega
    have y0:=HR.out.at (j:=0) (by omega)
    have HE:Hid (bm (pcs p.data.toList) s.data.toList 0 0=pM (pcs p.data.toList) s.data.toList):=rfl
    rw[HE.out]at y0
    go_wp2_with fail
    go_ret
    exact⟨rfl,HBA.out⟩
  · obtain⟨k,rfl⟩:∃k,kk=k+1:=⟨kk-1,by omega⟩
    rw[show((k+1:Nat):Int)-1=(k:Int) by omega]
    have i1:(0:Int)≤(k:Int):=by omega
    have i2:(k:Int)<((sts p.data.toList 0).length:Int):=by omega
    obtain⟨a,ha⟩:∃a,(sts p.data.toList 0)[k]? =some a:=⟨_,List.getElem?_eq_getElem (by omega)⟩
    obtain⟨a1,_,_,_,a5⟩:=piece_at ha
    obtain⟨b,off,rfl,hbl,hcell⟩:∃b off,q=some ⟨b,off,none⟩∧b<wr.heap.size∧∀(i x:Nat),(sts p.data.toList 0)[i]? =some x→wr.cell? ⟨b,off+i,none⟩=some (.int .i64 (x:Int)):=by
     rcases HI.out.up HB.out with h | h
     · rw[h]at hkk;simp at hkk
     · exact h
    have c0:=hcell k a ha
    have j1:(a:Int)<(p.size:Int):=by omega
    have hw:=pcat_wild p a a1
    have HPB:Hid ((p[a].toNat == 42)=false→(pcat (p.data.toList.drop a)).2=if stat (p.data.toList.drop a)then 42 else p[a]):=pcat_byte p a a1
    have HD:Hid ((pcs p.data.toList).drop k=pcat (p.data.toList.drop a)::(pcs p.data.toList).drop (k+1)):=a5
    have HA:Hid (a<p.size):=a1
    clear hcell ha a5
    generalize pcat (p.data.toList.drop a)=x at hw HPB HD
    generalize wr=wo at *
    go_wp2_with (at_make;refine wpList_make_full _ rfl _ _ 136 rfl wo.heap.size 4 i0 _ 1 Tryz.underlying136 hi hz0 hz1 .i64 .i64 _ _ (s.size+1) rfl rfl (by first | rfl | omega) (by first | rfl | omega) hb32 (by unfold maxLen;omega) (Nat.le_refl _) ?_;intro w2 hown hg1;have hR0:=RB.made hown;have HR2:Hid (RB w2 wo.heap.size (s.size+1) (fun _=>false)):=hR0;have HB2:Hid (Below wo.heap.size wo w2):=⟨hg1.os,hg1.tape,hg1.output,hg1.size,fun i hi=>hg1.block i hi (by simp)⟩;clear hown hR0 hg1)
    go_loopw [14] (fun mv wq=>∃mm:Nat,mm≤s.size+1∧mv= .int .i64 ((mm:Int)-1)∧Hid (RB wq wo.heap.size (s.size+1) (bmi (pcs p.data.toList) s.data.toList k mm))∧Hid (Below wo.heap.size wo wq)) (fun mv _=>(intOf mv+1).toNat)
    case atStart=>exact⟨s.size+1,Nat.le_refl _,by congr 1;omega,HR2.out.congr fun j hj=>by unfold bmi;rw[if_neg (by omega)],HB2⟩
    case round=>
     obtain⟨mm,hmm,rfl,HRN,HBN⟩:=hrel
     rcases Nat.eq_zero_or_pos mm with rfl | hmp
     · have m1:¬(0:Int)≤((0:Nat):Int)-1:=by omega
       have HRZ:Hid (RB wr wo.heap.size (s.size+1) (bm (pcs p.data.toList) s.data.toList k)):=HRN.out.congr fun j hj=>by unfold bmi;rw[if_pos (Nat.zero_le _)]
       have HBZ:Hid (Below w1.heap.size w1 wr):=HB.out.trans (HBN.out.mono HB.out.size)
       go_wp2_with fail
       go_roundw
       case rel=>exact⟨k,wo.heap.size,by omega,by go_num,rfl,HRZ,HBZ⟩
       case measure=>(first | (simp[intOf];done) | (simp[intOf];omega))
     · obtain⟨m,rfl⟩:∃m,mm=m+1:=⟨mm-1,by omega⟩
       rw[show((m+1:Nat):Int)-1=(m:Int) by omega]
       have m1:(0:Int)≤(m:Int):=by omega
       have m2:(m:Int)<(s.size:Int)+1:=by omega
       have m3:m<s.size+1:=by omega
       have HRC:Hid (RB wr g (s.size+1) (bm (pcs p.data.toList) s.data.toList (k+1))):=HR.out.up HBN.out hgr
       have f1:=HRN.out.free m
       have n1:=HRN.out.at m3
       have HPUT:Hid (∀y,y=bm (pcs p.data.toList) s.data.toList k m→RB (wr.setCell ⟨wo.heap.size,m,none⟩ (.bool y)) wo.heap.size (s.size+1) (bmi (pcs p.data.toList) s.data.toList k m)):=fun y hy=>(HRN.out.set m y).congr fun j _=>bmi_step _ _ k m y hy j
       have HBP:Hid (∀y,Below wo.heap.size wo (wr.setCell ⟨wo.heap.size,m,none⟩ (.bool y))):=fun y=>HBN.out.setCell (Nat.le_refl _) _
       generalize bmi (pcs p.data.toList) s.data.toList k (m+1) m=n0 at n1
       cases hX:(p[a].toNat == 42)
       · have bX:=byte_is42 _ hX
         have hx1:x.1=false:=hw.trans hX
         by_cases hml:m<s.size
         · have l1:(m:Int)<(s.size:Int):=by omega
           have l2:(m:Int)+1<(s.size:Int)+1:=by omega
           have d1:=HRC.out.at (j:=m+1) (by omega)
           have HBM:Hid (bm (pcs p.data.toList) s.data.toList k m=(((s[m].toNat:Int) == (x.2.toNat:Int)) && bm (pcs p.data.toList) s.data.toList (k+1) (m+1))):=by
            show _=_
            rw[bm_char hx1 HD.out s.data.toList m (by rw[HL.out];exact hml),←byte_cmp];rfl
           have hx2:=HPB.out hX
           generalize bm (pcs p.data.toList) s.data.toList (k+1) (m+1)=D at d1 HBM
           cases hst:stat (p.data.toList.drop a)
           · have e2:x.2=p[a]:=by rw[hx2,hst];rfl
             have HST:Hid (_=_):=hst
             rw[e2]at HBM
             clear hx2 hst e2 hX HPB hw
             by_cases hE:(s[m].toNat:Int)=(p[a].toNat:Int)
             · have HPQ:Hid (RB _ _ _ _):=HPUT.out D (by rw[HBM.out,hE];simp)
               clear HPUT HBM
               go_wp2_with (go_at_call 85;refine(star_any p a _ (by omega) HA.out).mono ?_;rintro e w4 ⟨rfl,rfl⟩;rw[HST.out])
               go_roundw
               case rel=>exact⟨m,by omega,by go_num,HPQ,HBP.out _⟩
               case measure=>(first | (simp[intOf];done) | (simp[intOf];omega))
             · have HPQ:Hid (RB _ _ _ _):=HPUT.out false (by rw[HBM.out,beq_eq_false_iff_ne.2 hE];rfl)
               clear HPUT HBM
               go_wp2_with (go_at_call 85;refine(star_any p a _ (by omega) HA.out).mono ?_;rintro e w4 ⟨rfl,rfl⟩;rw[HST.out])
               go_roundw
               case rel=>exact⟨m,by omega,by go_num,HPQ,HBP.out _⟩
               case measure=>(first | (simp[intOf];done) | (simp[intOf];omega))
           · have e2:x.2=42:=by rw[hx2,hst];rfl
             have HST:Hid (_=_):=hst
             rw[e2]at HBM
             clear hx2 hst e2 hX HPB hw
             cases hE:((s[m].toNat:Int) == 42)
             · have HPQ:Hid (RB _ _ _ _):=HPUT.out false (by rw[HBM.out];show _=(((s[m].toNat:Int) == 42) && _);rw[hE];rfl)
               clear HPUT HBM
               go_wp2_with (go_at_call 85;refine(star_any p a _ (by omega) HA.out).mono ?_;rintro e w4 ⟨rfl,rfl⟩;rw[HST.out])
               go_roundw
               case rel=>exact⟨m,by omega,by go_num,HPQ,HBP.out _⟩
               case measure=>(first | (simp[intOf];done) | (simp[intOf];omega))
             · have HPQ:Hid (RB _ _ _ _):=HPUT.out D (by rw[HBM.out];show _=(((s[m].toNat:Int) == 42) && _);rw[hE];rfl)
               clear HPUT HBM
               go_wp2_with (go_at_call 85;refine(star_any p a _ (by omega) HA.out).mono ?_;rintro e w4 ⟨rfl,rfl⟩;rw[HST.out])
               go_roundw
               case rel=>exact⟨m,by omega,by go_num,HPQ,HBP.out _⟩
               case measure=>(first | (simp[intOf];done) | (simp[intOf];omega))
         · obtain rfl:m=s.size:=by omega
           have l1:¬(s.size:Int)<(s.size:Int):=by omega
           have HPQ:Hid (RB wr wo.heap.size (s.size+1) (bmi (pcs p.data.toList) s.data.toList k s.size)):=HRN.out.congr fun j _=>bmi_none _ _ k s.size (by have:=bm_char_end hx1 HD.out s.data.toList;rw[HL.out]at this;exact this) j
           clear HPUT hX HPB hw
           go_wp2_with fail
           go_roundw
           case rel=>exact⟨s.size,by omega,by go_num,HPQ,HBN⟩
           case measure=>(first | (simp[intOf];done) | (simp[intOf];omega))
       · have bX:=byte_is42 _ hX
         have hx1:x.1=true:=hw.trans hX
         have d1:=HRC.out.at m3
         by_cases hml:m<s.size
         · have l1:(m:Int)<(s.size:Int):=by omega
           have l2:(m:Int)+1<(s.size:Int)+1:=by omega
           have HBM:Hid (bm (pcs p.data.toList) s.data.toList k m=(bm (pcs p.data.toList) s.data.toList (k+1) m || bm (pcs p.data.toList) s.data.toList k (m+1))):=bm_wild hx1 HD.out s.data.toList m (by rw[HL.out];exact hml)
           have d2:=HRN.out.at (j:=m+1) (by omega)
           have e2:bmi (pcs p.data.toList) s.data.toList k (m+1) (m+1)=bm (pcs p.data.toList) s.data.toList k (m+1):=if_pos (Nat.le_refl _)
           rw[e2]at d2
           clear e2
           generalize bm (pcs p.data.toList) s.data.toList (k+1) m=D at d1 HBM
           generalize bm (pcs p.data.toList) s.data.toList k (m+1)=E at d2 HBM
           clear hX HPB hw
           cases D
           · have HPQ:Hid (RB _ _ _ _):=HPUT.out E (by rw[HBM.out];rfl)
             clear HPUT HBM
             go_wp2_with fail
             go_roundw
             case rel=>exact⟨m,by omega,by go_num,HPQ,HBP.out _⟩
             case measure=>(first | (simp[intOf];done) | (simp[intOf];omega))
           · have HPQ:Hid (RB _ _ _ _):=HPUT.out true (by rw[HBM.out];rfl)
             clear HPUT HBM
             go_wp2_with fail
             go_roundw
             case rel=>exact⟨m,by omega,by go_num,HPQ,HBP.out _⟩
             case measure=>(first | (simp[intOf];done) | (simp[intOf];omega))
         · obtain rfl:m=s.size:=by omega
           have l1:¬(s.size:Int)<(s.size:Int):=by omega
           have HBM:Hid (bm (pcs p.data.toList) s.data.toList k s.size=bm (pcs p.data.toList) s.data.toList (k+1) s.size):=by have:=bm_wild_end hx1 HD.out s.data.toList;rw[HL.out]at this;exact this
           generalize bm (pcs p.data.toList) s.data.toList (k+1) s.size=D at d1 HBM
           clear hX HPB hw
           cases D
           · have HPQ:Hid (RB _ _ _ _):=HPUT.out false (by rw[HBM.out])
             clear HPUT HBM
             go_wp2_with fail
             go_roundw
             case rel=>exact⟨s.size,by omega,by go_num,HPQ,HBP.out _⟩
             case measure=>(first | (simp[intOf];done) | (simp[intOf];omega))
           · have HPQ:Hid (RB _ _ _ _):=HPUT.out true (by rw[HBM.out])
             clear HPUT HBM
             go_wp2_with fail
             go_roundw
             case rel=>exact⟨s.size,by omega,by go_num,HPQ,HBP.out _⟩
             case measure=>(first | (simp[intOf];done) | (simp[intOf];omega))
end Go.Proofs.YtnbkfggmpiccjaaGreatDoor
