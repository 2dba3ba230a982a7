import Derived.Test.YtgbljlabifpmgaaGreatDoorP1
import Derived.Test.YtgbljlabifpmgaaGreatDoorP3
import Derived.WalkKit
import Derived.OwnWalk
import Derived.Below
import Derived.Outline
import Derived.Test.YtgbljlabifpmgaaGreatDoorP7
set_option linter.unusedVariables false
set_option maxHeartbeats 12000000
namespace Go.Proofs.YtgbljlabifpmgaaGreatDoor
open Go.RowKit
theorem Tryz.infoTok:(Tryz.prog.info? 43).map (fun i=>(i.zero,i.size,i.bytes))=some (some (.agg #[.int .i64 0,.string ⟨#[]⟩,.int .i64 0]),3,32):=by kernel_rfl
def tcells:List Tk→List Value
 | []=>[]
 | x::r=>.int .i64 x.kind:: .string x.s:: .int .i64 x.at_::tcells r
theorem tcells_length:∀L:List Tk,(tcells L).length=L.length*3
 | []=>rfl
 | x::r=>by simp only[tcells,List.length_cons,tcells_length r];omega
theorem tcells_append:∀L N:List Tk,tcells (L++N)=tcells L++tcells N
 | [],_=>rfl
 | x::r,N=>by simp[tcells,tcells_append r N]
theorem tcells_at:∀(L:List Tk) (i:Nat) (x:Tk),L[i]? =some x→(tcells L)[i*3]? =some (.int .i64 x.kind)∧(tcells L)[i*3+1]? =some (.string x.s)∧(tcells L)[i*3+2]? =some (.int .i64 x.at_)
 | [],i,x,h=>by simp at h
 | y::r,0,x,h=>by simp at h;subst h;exact⟨rfl,rfl,rfl⟩
 | y::r,i+1,x,h=>by
   have e:(i+1)*3=i*3+1+1+1:=by omega
   rw[e]
   simp only[tcells,List.getElem?_cons_succ]at h ⊢
   exact tcells_at r i x h
def TKL (w:World)(p:Option Addr)(L:List Tk):Prop:=
 L=[]∨∃b off,p=some ⟨b,off,none⟩∧b<w.heap.size∧∀i x,L[i]? =some x→
  w.cell? ⟨b,off+i*3,none⟩=some (.int .i64 x.kind)∧w.cell? ⟨b,off+i*3+1,none⟩=some (.string x.s)∧w.cell? ⟨b,off+i*3+2,none⟩=some (.int .i64 x.at_)
theorem TKL.up {w w':World}{p:Option Addr}{L:List Tk}(h:TKL w p L)(k:Below w.heap.size w w'):TKL w' p L:=by
 rcases h with h | ⟨b,off,h1,h2,h3⟩
 · exact .inl h
 · refine .inr ⟨b,off,h1,Nat.lt_of_lt_of_le h2 k.size,fun i x hx=>?_⟩
   have q:∀o,w'.cell? ⟨b,o,none⟩=w.cell? ⟨b,o,none⟩:=fun o=>k.cell (p:=⟨b,o,none⟩) h2
   simp only[q]
   exact h3 i x hx
theorem TKL.at {w:World}{p:Option Addr}{L:List Tk}(h:TKL w p L){i:Nat}(hi:i<L.length):∃b off,p=some ⟨b,off,none⟩∧b<w.heap.size∧
 w.cell? ⟨b,off+i*3,none⟩=some (.int .i64 L[i].kind)∧w.cell? ⟨b,off+i*3+1,none⟩=some (.string L[i].s)∧w.cell? ⟨b,off+i*3+2,none⟩=some (.int .i64 L[i].at_):=by
 rcases h with rfl | ⟨b,off,h1,h2,h3⟩
 · simp at hi
 · exact⟨b,off,h1,h2,h3 i _ (List.getElem?_eq_getElem hi)⟩
def OTk (w:World)(base:Nat)(v:Value)(L:List Tk):Prop:=w.ownsRow base 43 3 v L.length (tcells L)
theorem OTk.nil (w:World)(base:Nat):OTk w base (.slice none 0 0) []:=World.ownsRow_nil _ _ _ _
theorem OTk.slice {w:World}{base:Nat}{v:Value}{L:List Tk}(h:OTk w base v L):∃q c,v= .slice q L.length c∧TKL w q L∧L.length≤c∧c≤maxLen∧∀a,q=some a→base≤a.block:=by
 rcases h.2 with⟨rfl,hn⟩ | ⟨g,cap,cur,rfl,hb,hgg,hle,hm,hsz,htk⟩
 · obtain rfl:=List.eq_nil_of_length_eq_zero hn
   exact⟨none,0,rfl,.inl rfl,Nat.le_refl _,Nat.zero_le _,fun a ha=>by cases ha⟩
 · have hlt:=(Array.getElem?_eq_some_iff.1 hgg).1
   refine⟨some ⟨g,0,none⟩,cap,rfl,.inr ⟨g,0,rfl,hlt,fun i x hx=>?_⟩,hle,hm,fun a ha=>by cases ha;exact hb⟩
   have hi:i<L.length:=(List.getElem?_eq_some_iff.1 hx).1
   obtain⟨k1,k2,k3⟩:=tcells_at L i x hx
   have hc:∀j,j<L.length*3→w.cell? ⟨g,0+j,none⟩=(tcells L)[j]? :=by
    intro j hj
    rw[←htk,List.getElem?_take_of_lt hj]
    simp[World.cell?, hgg]
   rw[←k1,←k2,←k3]
   exact⟨hc (i*3) (by omega),hc (i*3+1) (by omega),hc (i*3+2) (by omega)⟩
theorem OTk.below {w w':World}{base:Nat}{v:Value}{L:List Tk}(h:OTk w base v L)(k:Below w.heap.size w w'):OTk w' base v L:=by
 refine⟨h.1,?_⟩
 rcases h.2 with hn | ⟨g,cap,cur,rfl,hb,hgg,rest⟩
 · exact .inl hn
 · exact .inr ⟨g,cap,cur,rfl,hb,(k.block g (Array.getElem?_eq_some_iff.1 hgg).1).trans hgg,rest⟩
theorem OTk.set {w:World}{base:Nat}{v:Value}{L:List Tk}(h:OTk w base v L){a:Addr}(ha:a.block<base)(u:Value):OTk (w.setCell a u) base v L:=ownsRow_setCell_below h ha u
theorem OTk.other {w w':World}{base:Nat}{v:Value}{L:List Tk}(h:OTk w base v L)(hk:∀g,v.ownBlock=some g→w'.heap[g]? =w.heap[g]?):OTk w' base v L:=by
 refine⟨h.1,?_⟩
 rcases h.2 with hn | ⟨g,cap,cur,rfl,hb,hgg,rest⟩
 · exact .inl hn
 · exact .inr ⟨g,cap,cur,rfl,hb,(hk g rfl).trans hgg,rest⟩
theorem OTk.lt {w:World}{base:Nat}{v:Value}{L:List Tk}(h:OTk w base v L):∀g,v.ownBlock=some g→base≤g∧g<w.heap.size:=fun g hg=>World.ownsRow.lt h g hg
theorem append_tok (w:World){ops:Array Oper}{rest:List Oper}{o:Oper}{a:Act}{Q:Exit→Act→World→Prop}(hgd:o.guard=none)(s x:Operand)
 (ho:o.op= .call { callee:=.builtin .append,args:= #[s,x],argTypes:= #[23,23] })
 (base:Nat) (v:Value) (L:List Tk) (hs:a.eval s=v) (hown:OTk w base v L) (t:Tk) (hx:a.eval x= .slice (some ⟨w.heap.size,0,none⟩) 1 1)
 (hlen:L.length+1≤1099511627776) (hbase:base≤w.heap.size)
 (h:∀v' w',OTk w' base v' (L++[t])→Below base w w'→wpList Tryz.prog ops Q rest (a.put o.dst v') w'):wpList Tryz.prog ops Q (o::rest) a (w.alloc (.cells #[.int .i64 t.kind,.string t.s,.int .i64 t.at_] 43)):=by
 obtain⟨i0,hi,hz0,hz1,hz2⟩:=info_parts Tryz.infoTok
 refine wpList_append_own _ hgd s x 23 ho base 43 i0 _ 3 32 Tryz.underlying23 hi hz0 hz1 hz2 rfl (by decide) v L.length (tcells L) hs (hown.alloc _) ⟨w.heap.size,0,none⟩ 1 1 [.int .i64 t.kind,.string t.s,.int .i64 t.at_] hx rfl ?_ ?_ ?_ ?_ ?_ ?_
 · intro j u hj
   match j,hj with
   | 0,hj=>simp at hj;subst hj;simp[Addr.add]
   | 1,hj=>simp at hj;subst hj;simp[Addr.add]
   | 2,hj=>simp at hj;subst hj;simp[Addr.add]
 · intro u hu;simp at hu;rcases hu with rfl | rfl | rfl<;>rfl
 · unfold maxLen;omega
 · omega
 · simp;omega
 · intro v' w' h1 h2 _
   refine h v' w' ?_ ?_
   · unfold OTk;rw[tcells_append,List.length_append];exact h1
   · refine((Below.refl base w).alloc hbase (.cells #[.int .i64 t.kind,.string t.s,.int .i64 t.at_] 43)).grown h2 (by simp;omega) ?_
     intro k hk
     exact(World.ownsRow.lt hown k hk).1
theorem isTextByte_any (c:UInt8)(w:World):
 Calls Tryz.prog 96 #[.int .u8 (c.toNat:Int)] w fun e w'=>e= .returned (.bool (okb c))∧w'=w:=by
 by_cases h:(32:Int)≤(c.toNat:Int)
 · go_enter Tryz.func96,Tryz.ntmps96
   go_wp2
   go_ret
   refine⟨?_,rfl⟩
   have h':32≤c.toNat:=by omega
   simp[okb,h'];omega
 · go_enter Tryz.func96,Tryz.ntmps96
   go_wp2
   go_ret
   refine⟨?_,rfl⟩
   have h':¬ 32≤c.toNat:=by omega
   simp[okb,h']
theorem isGuarded_any (c:UInt8)(w:World):
 Calls Tryz.prog 97 #[.int .u8 (c.toNat:Int)] w fun e w'=>e= .returned (.bool (grd c))∧w'=w:=by
 go_enter Tryz.func97,Tryz.ntmps97
 go_wp2
 all_goals
  go_ret
  refine⟨?_,rfl⟩
 · have h:(c.toNat:Int)=34:=by assumption
   have h':c.toNat=34:=by omega
   simp[grd,h']
 · have h:¬(c.toNat:Int)=34:=by assumption
   have h':(c.toNat == 34)=false:=by simp;omega
   have e:((c.toNat:Int) == 92)=(c.toNat == 92):=by rw[Bool.eq_iff_iff];simp;omega
   have e2:((c.toNat:Int) == 34)=false:=by simp;omega
   have e3:((c.toNat:Int) == 34 || (c.toNat:Int) == 92)=grd c:=by unfold grd;rw[h',e2,e]
   exact congrArg (fun b=>Ending.returned (.bool b)) e3
theorem quote_full (s:ByteArray)(w:World)(hs:s.size≤maxLen)(h:60<s.size):
 Calls Tryz.prog 84 #[.string s] w fun e w'=>e= .returned (.tuple #[.string ByteArray.empty,.iface 33 (.int .i64 4)])∧w'=w:=by
 have h':(60:Int)<(s.size:Int):=by omega
 go_enter Tryz.func84,Tryz.ntmps84
 go_wp2
 go_ret2
 exact⟨rfl,rfl⟩
theorem all_snoc (l:List UInt8)(c:UInt8)(h:l.all okb=true)(hc:okb c=true):(l++[c]).all okb=true:=by
 rw[List.all_append,h];simp[hc]
theorem body_one_plain {c:UInt8}(h:grd c=false)(l:List UInt8):(34::body l)++[c]=34::body (l++[c]):=by
 rw[body_snoc,one,if_neg (by simp[h])];rfl
theorem body_one_grd {c:UInt8}(h:grd c=true)(l:List UInt8):((34::body l)++[92])++[c]=34::body (l++[c]):=by
 rw[body_snoc,one,if_pos h];simp
def qres (l:List UInt8):Value:=if l.all okb then .tuple #[.string ⟨(quoted l).toArray⟩,.nilIface]else .tuple #[.string ⟨#[]⟩,.iface 33 (.int .i64 1)]
theorem qres_ok {l:List UInt8}(h:l.all okb=true):qres l= .tuple #[.string ⟨(quoted l).toArray⟩,.nilIface]:=if_pos h
theorem qres_bad {l:List UInt8}(h:l.all okb=false):qres l= .tuple #[.string ⟨#[]⟩,.iface 33 (.int .i64 1)]:=if_neg (by rw[h];decide)
theorem take_done (s:ByteArray)(k:Nat)(h:s.size≤k):s.data.toList.take k=s.data.toList:=List.take_of_length_le (by simpa using h)
theorem quote_short (s:ByteArray)(w:World)(h:s.size≤60):
 Calls Tryz.prog 84 #[.string s] w fun e w'=>e= .returned (qres s.data.toList)∧Below w.heap.size w w':=by
 have h':¬(60:Int)<(s.size:Int):=by omega
 go_enter Tryz.func84,Tryz.ntmps84
 go_wp2
 go_loopw [4,13] (fun v i wr=>∃k:Nat,k≤s.size∧i= .int .i64 k∧OwnB wr w.heap.size v (34::body (s.data.toList.take k))∧Hid ((s.data.toList.take k).all okb=true)∧Below w.heap.size w wr) (fun _ i _=>s.size-(intOf i).toNat)
 case atStart=>exact⟨0,Nat.zero_le _,rfl,ownB_one w 34 34 rfl,rfl,(Below.refl _ _).alloc (Nat.le_refl _) _⟩
 case round=>
  obtain⟨k,hk,rfl,hown,HA,hnx⟩:=hrel
  have hbl:=body_length (s.data.toList.take k)
  have htl:(s.data.toList.take k).length≤k:=List.length_take_le _ _
  have hsz:=hnx.size
  by_cases hlt:k<s.size
  · have HT:Hid (_=_):=take_snoc s k hlt
    have i1:(k:Int)<(s.size:Int):=by omega
    cases ho:okb s[k]
    · go_wp2_with (go_at_call 96;refine(isTextByte_any _ _).mono ?_;rintro e w' ⟨rfl,rfl⟩)
      go_ret2
      refine⟨?_,hnx⟩
      rw[qres_bad (all_take_bad s k hlt ho)];rfl
    · have HA2:Hid (_=_):=all_snoc _ _ HA.out ho
      cases hg:grd s[k]
      · have HB:Hid (_=_):=body_one_plain hg (s.data.toList.take k)
        go_wp2_with (first
         | (go_at_call 96;refine(isTextByte_any _ _).mono ?_;rintro e w' ⟨rfl,rfl⟩)
         | (go_at_call 97;refine(isGuarded_any _ _).mono ?_;rintro e w' ⟨rfl,rfl⟩)
         | (at_builtin;refine append_byte _ rfl (.tmp 29) (.tmp 33) rfl w.heap.size _ _ rfl hown _ s[k] rfl rfl (by simp only[List.length_cons];omega) hsz ?_;intro v' w1 hown1 hb1))
        go_roundw
        case rel=>exact⟨k+1,by omega,by go_num,by rw[HT.out,←HB.out];exact hown1,by rw[HT.out];exact HA2,hnx.trans hb1⟩
        case measure=>simp[intOf];omega
      · have HB:Hid (_=_):=body_one_grd hg (s.data.toList.take k)
        have t1:True:=trivial
        go_wp2_with (first
         | (go_at_call 96;refine(isTextByte_any _ _).mono ?_;rintro e w' ⟨rfl,rfl⟩)
         | (go_at_call 97;refine(isGuarded_any _ _).mono ?_;rintro e w' ⟨rfl,rfl⟩)
         | (at_builtin;have _t:=t1;refine append_byte _ rfl (.tmp 26) (.tmp 27) rfl w.heap.size _ _ rfl hown _ 92 rfl rfl (by simp only[List.length_cons];omega) hsz ?_;intro v1 w1 hown1 hb1;have hz1:=hb1.size;clear t1)
         | (at_builtin;refine append_byte _ rfl (.tmp 29) (.tmp 33) rfl w.heap.size _ _ rfl hown1 _ s[k] rfl rfl (by simp only[List.length_cons,List.length_append,List.length_nil];omega) (by omega) ?_;intro v2 w2 hown2 hb2))
        go_roundw
        case rel=>exact⟨k+1,by omega,by go_num,by rw[HT.out,←HB.out];exact hown2,by rw[HT.out];exact HA2,(hnx.trans hb1).trans hb2⟩
        case measure=>simp[intOf];omega
  · obtain rfl:k=s.size:=by omega
    have HA2:Hid (s.data.toList.all okb=true):=by have:=HA.out;rw[take_all s]at this;exact this
    rw[take_all s]at hown hbl htl
    have i1:¬(s.size:Int)<(s.size:Int):=by omega
    clear HA
    go_wp2_with (at_builtin;refine append_byte _ rfl (.tmp 36) (.tmp 37) rfl w.heap.size _ _ rfl hown _ 34 rfl rfl (by simp only[List.length_cons];omega) hsz ?_;intro v1 w1 hown1 hb1;have hconv:=text_of w1 _ v1 _ hown1)
    go_ret2
    refine⟨?_,hnx.trans hb1⟩
    rw[qres_ok HA2.out]
    rfl
theorem quoteN_any (s:ByteArray)(w:World)(hs:s.size≤maxLen):
 Calls Tryz.prog 84 #[.string s] w fun e w'=>∃q:ByteArray,q.size≤122∧e= .returned (.tuple #[.string q,eV (tfault s.data.toList)])∧Below w.heap.size w w':=by
 have hl:s.data.toList.length=s.size:=by simp
 by_cases h1:s.size≤60
 · refine(quote_short s w h1).mono ?_
   rintro e w' ⟨rfl,hb⟩
   cases h2:s.data.toList.all okb
   · exact⟨⟨#[]⟩,Nat.zero_le _,by rw[qres_bad h2,tfault_bad (by rw[hl];exact h1) h2];rfl,hb⟩
   · refine⟨⟨(quoted s.data.toList).toArray⟩,?_,?_,hb⟩
     · have:=body_length s.data.toList
       show(quoted s.data.toList).length≤122
       unfold quoted
       rw[List.length_cons,List.length_append,List.length_cons,List.length_nil];omega
     · rw[qres_ok h2,tfault_ok (by unfold textOk;rw[decide_eq_true (by rw[hl];exact h1),h2];rfl)];rfl
 · refine(quote_full s w hs (by omega)).mono ?_
   rintro e w' ⟨rfl,rfl⟩
   exact⟨⟨#[]⟩,Nat.zero_le _,by rw[tfault_long (by rw[hl];exact h1)];rfl,Below.refl _ _⟩
theorem ret_num {k:IntKind}{a b:Int}(h:a=b):Ending.returned (.int k a)= .returned (.int k b):=by rw[h]
theorem textFault_any (s:ByteArray)(w:World)(hs:s.size≤maxLen):
 Calls Tryz.prog 76 #[.string s] w fun e w'=>e= .returned (.int .i64 (tfault s.data.toList))∧w'=w:=by
 have hl:s.data.toList.length=s.size:=by simp
 by_cases h60:s.size≤60
 · have h':¬(60:Int)<(s.size:Int):=by omega
   go_enter Tryz.func76,Tryz.ntmps76
   go_wp2
   go_loop [3] (fun i=>∃k:Nat,k≤s.size∧i= .int .i64 k∧Hid ((s.data.toList.take k).all okb=true)) (fun i=>s.size-(intOf i).toNat)
   case atStart=>exact⟨0,Nat.zero_le _,rfl,rfl⟩
   case round=>
    obtain⟨k,hk,rfl,HA⟩:=hrel
    by_cases hlt:k<s.size
    · have i1:(k:Int)<(s.size:Int):=by omega
      cases ho:okb s[k]
      · have HF:Hid (_=_):=tfault_bad (l:=s.data.toList) (by omega) (all_take_bad s k hlt ho)
        have hb:(s[k].toNat:Int)<32∨(126:Int)<(s[k].toNat:Int):=by
         unfold okb at ho
         simp only[Bool.and_eq_false_iff,decide_eq_false_iff_not]at ho
         omega
        by_cases hb1:(s[k].toNat:Int)<32
        · go_wp2
          go_ret
          exact⟨ret_num HF.out.symm,rfl⟩
        · have hb2:(126:Int)<(s[k].toNat:Int):=by omega
          clear hb
          go_wp2
          go_ret
          exact⟨ret_num HF.out.symm,rfl⟩
      · have HA2:Hid (_=_):=all_snoc _ _ HA.out ho
        have HT:Hid (_=_):=take_snoc s k hlt
        have hb:¬(s[k].toNat:Int)<32∧¬(126:Int)<(s[k].toNat:Int):=by
         unfold okb at ho
         simp only[Bool.and_eq_true,decide_eq_true_eq]at ho
         omega
        obtain⟨hb1,hb2⟩:=hb
        go_wp2
        go_round
        case rel=>exact⟨k+1,by omega,by go_num,by rw[HT.out];exact HA2⟩
        case measure=>simp[intOf];omega
    · obtain rfl:k=s.size:=by omega
      have i1:¬(s.size:Int)<(s.size:Int):=by omega
      have HF:Hid (_=_):=tfault_ok (l:=s.data.toList) (by
       have h:=HA.out
       rw[take_all s]at h
       unfold textOk;rw[h,decide_eq_true (by omega)];rfl)
      go_wp2
      go_ret
      exact⟨ret_num HF.out.symm,rfl⟩
 · have HF:Hid (_=_):=tfault_long (l:=s.data.toList) (by omega)
   have h':(60:Int)<(s.size:Int):=by omega
   go_enter Tryz.func76,Tryz.ntmps76
   go_wp2
   go_ret
   exact⟨ret_num HF.out.symm,rfl⟩
end Go.Proofs.YtgbljlabifpmgaaGreatDoor
