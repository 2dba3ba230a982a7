import Derived.Test.YtlnhaajjoplafaaGreatDoorT6
import Derived.Test.YtlnhaajjoplafaaGreatDoorT1
import Derived.Outline
import Derived.Test.YtlnhaajjoplafaaGreatDoorT4
import Derived.Test.YtlnhaajjoplafaaGreatDoorChecked
import Derived.Test.YtlnhaajjoplafaaGreatDoorT8
import Derived.WalkKit
import Derived.OwnWalk
import Derived.Below
set_option linter.unusedVariables false
set_option maxHeartbeats 12000000
namespace Go.Proofs.YtlnhaajjoplafaaGreatDoor
open Go.RowKit
theorem isTextByte_any (c:UInt8)(w:World):
 Calls Tryz.prog 68 #[.int .u8 (c.toNat:Int)] w fun e w'=>e= .returned (.bool (okb c))∧w'=w:=by
 by_cases h:(32:Int)≤(c.toNat:Int)
 · go_enter Tryz.func68,Tryz.ntmps68
   go_wp2
   go_ret
   refine⟨?_,rfl⟩
   have h':32≤c.toNat:=by omega
   simp[okb,h'];omega
 · go_enter Tryz.func68,Tryz.ntmps68
   go_wp2
   go_ret
   refine⟨?_,rfl⟩
   have h':¬ 32≤c.toNat:=by omega
   simp[okb,h']
theorem isGuarded_any (c:UInt8)(w:World):
 Calls Tryz.prog 69 #[.int .u8 (c.toNat:Int)] w fun e w'=>e= .returned (.bool (grd c))∧w'=w:=by
 go_enter Tryz.func69,Tryz.ntmps69
 go_wp2
 all_goals
  go_ret
  refine⟨?_,rfl⟩
 · have h:(c.toNat:Int)=34:=by assumption
   have h':c.toNat=34:=by omega
   simp[grd,h']
 · have h:¬(c.toNat:Int)=34:=by assumption
   have h':(c.toNat == 34)=false:=by simp;omega
   have e:((c.toNat:Int) == 92)=(c.toNat == 92):=by rw[Bool.eq_iff_iff];simp;omega
   have e2:((c.toNat:Int) == 34)=false:=by simp;omega
   have e3:((c.toNat:Int) == 34 || (c.toNat:Int) == 92)=grd c:=by unfold grd;rw[h',e2,e]
   exact congrArg (fun b=>Ending.returned (.bool b)) e3
theorem quote_full (s:ByteArray)(w:World)(hs:s.size≤maxLen)(h:60<s.size):
 Calls Tryz.prog 43 #[.string s] w fun e w'=>e= .returned (.tuple #[.string ByteArray.empty,.iface 70 (.int .i64 4)])∧w'=w:=by
 have h':(60:Int)<(s.size:Int):=by omega
 go_enter Tryz.func43,Tryz.ntmps43
 go_wp2
 go_ret2
 exact⟨rfl,rfl⟩
theorem all_snoc (l:List UInt8)(c:UInt8)(h:l.all okb=true)(hc:okb c=true):(l++[c]).all okb=true:=by
 rw[List.all_append,h];simp[hc]
theorem body_one_plain {c:UInt8}(h:grd c=false)(l:List UInt8):(34::body l)++[c]=34::body (l++[c]):=by
 rw[body_snoc,one,if_neg (by simp[h])];rfl
theorem body_one_grd {c:UInt8}(h:grd c=true)(l:List UInt8):((34::body l)++[92])++[c]=34::body (l++[c]):=by
 rw[body_snoc,one,if_pos h];simp
def qres (l:List UInt8):Value:=if l.all okb then .tuple #[.string ⟨(quoted l).toArray⟩,.nilIface]else .tuple #[.string ⟨#[]⟩,.iface 70 (.int .i64 1)]
theorem qres_ok {l:List UInt8}(h:l.all okb=true):qres l= .tuple #[.string ⟨(quoted l).toArray⟩,.nilIface]:=if_pos h
theorem qres_bad {l:List UInt8}(h:l.all okb=false):qres l= .tuple #[.string ⟨#[]⟩,.iface 70 (.int .i64 1)]:=if_neg (by rw[h];decide)
theorem take_done (s:ByteArray)(k:Nat)(h:s.size≤k):s.data.toList.take k=s.data.toList:=List.take_of_length_le (by simpa using h)
theorem quote_short (s:ByteArray)(w:World)(h:s.size≤60):
 Calls Tryz.prog 43 #[.string s] w fun e w'=>e= .returned (qres s.data.toList)∧Below w.heap.size w w':=by
 have h':¬(60:Int)<(s.size:Int):=by omega
 go_enter Tryz.func43,Tryz.ntmps43
 go_wp2
 go_loopw [4,13] (fun v i wr=>∃k:Nat,k≤s.size∧i= .int .i64 k∧OwnB wr w.heap.size v (34::body (s.data.toList.take k))∧Hid ((s.data.toList.take k).all okb=true)∧Below w.heap.size w wr) (fun _ i _=>s.size-(intOf i).toNat)
 case atStart=>exact⟨0,Nat.zero_le _,rfl,ownB_one w 34 34 rfl,rfl,(Below.refl _ _).alloc (Nat.le_refl _) _⟩
 case round=>
  obtain⟨k,hk,rfl,hown,HA,hnx⟩:=hrel
  have hbl:=body_length (s.data.toList.take k)
  have htl:(s.data.toList.take k).length≤k:=List.length_take_le _ _
  have hsz:=hnx.size
  by_cases hlt:k<s.size
  · have HT:Hid (_=_):=take_snoc s k hlt
    have i1:(k:Int)<(s.size:Int):=by omega
    cases ho:okb s[k]
    · go_wp2_with (go_at_call 68;refine(isTextByte_any _ _).mono ?_;rintro e w' ⟨rfl,rfl⟩)
      go_ret2
      refine⟨?_,hnx⟩
      rw[qres_bad (all_take_bad s k hlt ho)];rfl
    · have HA2:Hid (_=_):=all_snoc _ _ HA.out ho
      cases hg:grd s[k]
      · have HB:Hid (_=_):=body_one_plain hg (s.data.toList.take k)
        go_wp2_with (first
         | (go_at_call 68;refine(isTextByte_any _ _).mono ?_;rintro e w' ⟨rfl,rfl⟩)
         | (go_at_call 69;refine(isGuarded_any _ _).mono ?_;rintro e w' ⟨rfl,rfl⟩)
         | (at_builtin;refine append_byte _ rfl (.tmp 29) (.tmp 33) rfl w.heap.size _ _ rfl hown _ s[k] rfl rfl (by simp only[List.length_cons];omega) hsz ?_;intro v' w1 hown1 hb1))
        go_roundw
        case rel=>exact⟨k+1,by omega,by go_num,by rw[HT.out,←HB.out];exact hown1,by rw[HT.out];exact HA2,hnx.trans hb1⟩
        case measure=>simp[intOf];omega
      · have HB:Hid (_=_):=body_one_grd hg (s.data.toList.take k)
        have t1:True:=trivial
        go_wp2_with (first
         | (go_at_call 68;refine(isTextByte_any _ _).mono ?_;rintro e w' ⟨rfl,rfl⟩)
         | (go_at_call 69;refine(isGuarded_any _ _).mono ?_;rintro e w' ⟨rfl,rfl⟩)
         | (at_builtin;have _t:=t1;refine append_byte _ rfl (.tmp 26) (.tmp 27) rfl w.heap.size _ _ rfl hown _ 92 rfl rfl (by simp only[List.length_cons];omega) hsz ?_;intro v1 w1 hown1 hb1;have hz1:=hb1.size;clear t1)
         | (at_builtin;refine append_byte _ rfl (.tmp 29) (.tmp 33) rfl w.heap.size _ _ rfl hown1 _ s[k] rfl rfl (by simp only[List.length_cons,List.length_append,List.length_nil];omega) (by omega) ?_;intro v2 w2 hown2 hb2))
        go_roundw
        case rel=>exact⟨k+1,by omega,by go_num,by rw[HT.out,←HB.out];exact hown2,by rw[HT.out];exact HA2,(hnx.trans hb1).trans hb2⟩
        case measure=>simp[intOf];omega
  · obtain rfl:k=s.size:=by omega
    have HA2:Hid (s.data.toList.all okb=true):=by have:=HA.out;rw[take_all s]at this;exact this
    rw[take_all s]at hown hbl htl
    have i1:¬(s.size:Int)<(s.size:Int):=by omega
    clear HA
    go_wp2_with (at_builtin;refine append_byte _ rfl (.tmp 36) (.tmp 37) rfl w.heap.size _ _ rfl hown _ 34 rfl rfl (by simp only[List.length_cons];omega) hsz ?_;intro v1 w1 hown1 hb1;have hconv:=text_of w1 _ v1 _ hown1)
    go_ret2
    refine⟨?_,hnx.trans hb1⟩
    rw[qres_ok HA2.out]
    rfl
theorem quoteN_any (s:ByteArray)(w:World)(hs:s.size≤maxLen):
 Calls Tryz.prog 43 #[.string s] w fun e w'=>∃q:ByteArray,q.size≤122∧e= .returned (.tuple #[.string q,eV (tfault s.data.toList)])∧Below w.heap.size w w':=by
 have hl:s.data.toList.length=s.size:=by simp
 by_cases h1:s.size≤60
 · refine(quote_short s w h1).mono ?_
   rintro e w' ⟨rfl,hb⟩
   cases h2:s.data.toList.all okb
   · exact⟨⟨#[]⟩,Nat.zero_le _,by rw[qres_bad h2,tfault_bad (by rw[hl];exact h1) h2];rfl,hb⟩
   · refine⟨⟨(quoted s.data.toList).toArray⟩,?_,?_,hb⟩
     · have:=body_length s.data.toList
       show(quoted s.data.toList).length≤122
       unfold quoted
       rw[List.length_cons,List.length_append,List.length_cons,List.length_nil];omega
     · rw[qres_ok h2,tfault_ok (by unfold textOk;rw[decide_eq_true (by rw[hl];exact h1),h2];rfl)];rfl
 · refine(quote_full s w hs (by omega)).mono ?_
   rintro e w' ⟨rfl,rfl⟩
   exact⟨⟨#[]⟩,Nat.zero_le _,by rw[tfault_long (by rw[hl];exact h1)];rfl,Below.refl _ _⟩
set_option linter.unusedSimpArgs false
theorem write_any (t i:ByteArray)(w:World)(htm:t.size≤maxLen)(him:i.size≤maxLen):
 Calls Tryz.prog 27 #[.agg #[.string t,.string i]] w fun e w'=>∃q:ByteArray,e= .returned (.tuple #[.string q,eV (ufault t.data.toList i.data.toList)])∧Below w.heap.size w w':=by
 by_cases ht:nfault t.data.toList=0
 · have htl:t.size≤20:=by have:=nfault_small ht;simpa using this
   have HE:Hid (eV (nfault t.data.toList)= .nilIface):=eV_nil ht
   have HU:Hid (ufault t.data.toList i.data.toList=tfault i.data.toList):=if_pos ht
   clear ht
   by_cases hi:tfault i.data.toList=0
   · have HI:Hid (eV (tfault i.data.toList)= .nilIface):=eV_nil hi
     clear hi
     go_enter Tryz.func27,Tryz.ntmps27
     go_wp2_with fail
     refine(check_any t _ htm).mono ?_
     rintro e w1 ⟨rfl,rfl⟩
     rw[HE.out]
     go_wp2_with fail
     refine(quoteN_any i _ him).mono ?_
     rintro e w2 ⟨q,hq,rfl,hb2⟩
     rw[HI.out]
     have hc2:∀o,w2.cell? ⟨w.heap.size,o,none⟩=_:=fun o=>hb2.cell (p:=⟨w.heap.size,o,none⟩) (by simp)
     go_wp2_with fail
     go_ret2
     exact⟨t++⟨#[58,58]⟩++q,by rw[HU.out,HI.out];rfl,((Below.refl _ _).alloc (Nat.le_refl _) _).trans (hb2.mono (by simp))⟩
   · have HI:Hid (eV (tfault i.data.toList)= .iface 70 (.int .i64 (tfault i.data.toList))):=eV_not hi
     clear hi
     go_enter Tryz.func27,Tryz.ntmps27
     go_wp2_with fail
     refine(check_any t _ htm).mono ?_
     rintro e w1 ⟨rfl,rfl⟩
     rw[HE.out]
     go_wp2_with fail
     refine(quoteN_any i _ him).mono ?_
     rintro e w2 ⟨q,hq,rfl,hb2⟩
     rw[HI.out]
     go_wp2_with fail
     go_ret2
     exact⟨⟨#[]⟩,by rw[HU.out,HI.out];rfl,((Below.refl _ _).alloc (Nat.le_refl _) _).trans (hb2.mono (by simp))⟩
 · have HE:Hid (eV (nfault t.data.toList)= .iface 70 (.int .i64 (nfault t.data.toList))):=eV_not ht
   have HU:Hid (ufault t.data.toList i.data.toList=nfault t.data.toList):=if_neg ht
   clear ht
   go_enter Tryz.func27,Tryz.ntmps27
   go_wp2_with fail
   refine(check_any t _ htm).mono ?_
   rintro e w1 ⟨rfl,rfl⟩
   rw[HE.out]
   go_wp2_with fail
   go_ret2
   exact⟨⟨#[]⟩,by rw[HU.out,HE.out];rfl,(Below.refl _ _).alloc (Nat.le_refl _) _⟩
theorem Tryz.infoPiece:(Tryz.prog.info? 205).map (fun i=>(i.zero,i.size,i.bytes))=some (some (.agg #[.bool false,.int .u8 0]),2,2):=by kernel_rfl
def pcells:List Pc→List Value
 | []=>[]
 | x::r=>.bool x.1:: .int .u8 (x.2.toNat:Int)::pcells r
theorem pcells_length:∀L:List Pc,(pcells L).length=L.length*2
 | []=>rfl
 | x::r=>by simp only[pcells,List.length_cons,pcells_length r];omega
theorem pcells_append:∀L N:List Pc,pcells (L++N)=pcells L++pcells N
 | [],_=>rfl
 | x::r,N=>by simp[pcells,pcells_append r N]
theorem pcells_at:∀(L:List Pc) (i:Nat) (x:Pc),L[i]? =some x→(pcells L)[i*2]? =some (.bool x.1)∧(pcells L)[i*2+1]? =some (.int .u8 (x.2.toNat:Int))
 | [],i,x,h=>by simp at h
 | y::r,0,x,h=>by simp at h;subst h;exact⟨rfl,rfl⟩
 | y::r,i+1,x,h=>by
   have e:(i+1)*2=i*2+1+1:=by omega
   rw[e]
   simp only[pcells,List.getElem?_cons_succ]at h ⊢
   exact pcells_at r i x h
def PL (w:World)(p:Option Addr)(L:List Pc):Prop:=
 L=[]∨∃b off,p=some ⟨b,off,none⟩∧b<w.heap.size∧∀i x,L[i]? =some x→
  w.cell? ⟨b,off+i*2,none⟩=some (.bool x.1)∧w.cell? ⟨b,off+i*2+1,none⟩=some (.int .u8 (x.2.toNat:Int))
theorem PL.up {w w':World}{p:Option Addr}{L:List Pc}(h:PL w p L)(k:Below w.heap.size w w'):PL w' p L:=by
 rcases h with h | ⟨b,off,h1,h2,h3⟩
 · exact .inl h
 · refine .inr ⟨b,off,h1,Nat.lt_of_lt_of_le h2 k.size,fun i x hx=>?_⟩
   have q:∀o,w'.cell? ⟨b,o,none⟩=w.cell? ⟨b,o,none⟩:=fun o=>k.cell (p:=⟨b,o,none⟩) h2
   simp only[q]
   exact h3 i x hx
theorem PL.at {w:World}{p:Option Addr}{L:List Pc}(h:PL w p L){i:Nat}(hi:i<L.length):∃b off,p=some ⟨b,off,none⟩∧b<w.heap.size∧
 w.cell? ⟨b,off+i*2,none⟩=some (.bool L[i].1)∧w.cell? ⟨b,off+i*2+1,none⟩=some (.int .u8 (L[i].2.toNat:Int)):=by
 rcases h with rfl | ⟨b,off,h1,h2,h3⟩
 · simp at hi
 · exact⟨b,off,h1,h2,h3 i _ (List.getElem?_eq_getElem hi)⟩
def OP (w:World)(base:Nat)(v:Value)(L:List Pc):Prop:=w.ownsRow base 205 2 v L.length (pcells L)
theorem OP.nil (w:World)(base:Nat):OP w base (.slice none 0 0) []:=World.ownsRow_nil _ _ _ _
theorem OP.slice {w:World}{base:Nat}{v:Value}{L:List Pc}(h:OP w base v L):∃q c,v= .slice q L.length c∧PL w q L∧L.length≤c∧c≤maxLen∧
 ((L=[]∧v= .slice none 0 0)∨∃g cur,q=some ⟨g,0,none⟩∧base≤g∧g<w.heap.size∧w.heap[g]? =some (.cells cur 205 (0,0))∧L.length*2≤cur.size):=by
 rcases h.2 with⟨rfl,hn⟩ | ⟨g,cap,cur,rfl,hb,hgg,hle,hm,hsz,htk⟩
 · obtain rfl:=List.eq_nil_of_length_eq_zero hn
   exact⟨none,0,rfl,.inl rfl,Nat.le_refl _,Nat.zero_le _,.inl ⟨rfl,rfl⟩⟩
 · have hlt:=(Array.getElem?_eq_some_iff.1 hgg).1
   refine⟨some ⟨g,0,none⟩,cap,rfl,.inr ⟨g,0,rfl,hlt,fun i x hx=>?_⟩,hle,hm,.inr ⟨g,cur,rfl,hb,hlt,hgg,by rw[hsz];omega⟩⟩
   have hi:i<L.length:=(List.getElem?_eq_some_iff.1 hx).1
   obtain⟨k1,k2⟩:=pcells_at L i x hx
   have hc:∀j,j<L.length*2→w.cell? ⟨g,0+j,none⟩=(pcells L)[j]? :=by
    intro j hj
    rw[←htk,List.getElem?_take_of_lt hj]
    simp[World.cell?, hgg]
   rw[←k1,←k2]
   exact⟨hc (i*2) (by omega),hc (i*2+1) (by omega)⟩
theorem append_piece (w:World){ops:Array Oper}{rest:List Oper}{o:Oper}{a:Act}{Q:Exit→Act→World→Prop}(hgd:o.guard=none)(s x:Operand)
 (ho:o.op= .call { callee:=.builtin .append,args:= #[s,x],argTypes:= #[171,171] })
 (base:Nat) (v:Value) (l:List Pc) (hs:a.eval s=v) (hown:OP w base v l) (b:Bool) (n:Int) (c:UInt8) (hc:n=c.toNat) (hx:a.eval x= .slice (some ⟨w.heap.size,0,none⟩) 1 1)
 (hlen:l.length+1≤1099511627776) (hbase:base≤w.heap.size)
 (h:∀v' w',OP w' base v' (l++[(b,c)])→Below base w w'→wpList Tryz.prog ops Q rest (a.put o.dst v') w'):wpList Tryz.prog ops Q (o::rest) a (w.alloc (.cells #[.bool b,.int .u8 n] 205)):=by
 obtain⟨i0,hi,hz0,hz1,hz2⟩:=info_parts Tryz.infoPiece
 subst hc
 refine wpList_append_own _ hgd s x 171 ho base 205 i0 _ 2 2 Tryz.underlying171 hi hz0 hz1 hz2 rfl (by decide) v l.length (pcells l) hs (hown.alloc _) ⟨w.heap.size,0,none⟩ 1 1 [.bool b,.int .u8 (c.toNat:Int)] hx rfl ?_ ?_ ?_ ?_ ?_ ?_
 · intro j u hj
   match j,hj with
   | 0,hj=>simp at hj;subst hj;simp[Addr.add]
   | 1,hj=>simp at hj;subst hj;simp[Addr.add]
 · intro u hu;simp at hu;rcases hu with rfl | rfl<;>rfl
 · unfold maxLen;omega
 · omega
 · simp;omega
 · intro v' w' h1 h2 _
   refine h v' w' ?_ ?_
   · unfold OP;rw[pcells_append,List.length_append];exact h1
   · refine((Below.refl base w).alloc hbase (.cells #[.bool b,.int .u8 (c.toNat:Int)] 205)).grown h2 (by simp;omega) ?_
     intro k hk
     exact(World.ownsRow.lt hown k hk).1
theorem append_two (w:World){ops:Array Oper}{rest:List Oper}{o:Oper}{a:Act}{Q:Exit→Act→World→Prop}(hgd:o.guard=none)(s x:Operand)
 (ho:o.op= .call { callee:=.builtin .append,args:= #[s,x],argTypes:= #[119,119] })
 (base:Nat) (v:Value) (l:List UInt8) (hs:a.eval s=v) (hown:OwnB w base v l) (n m:Int) (c d:UInt8) (hc:n=c.toNat) (hd:m=d.toNat) (hx:a.eval x= .slice (some ⟨w.heap.size,0,none⟩) 2 2)
 (hlen:l.length+2≤140737488355328) (hbase:base≤w.heap.size)
 (h:∀v' w',OwnB w' base v' (l++[c,d])→Below base w w'→wpList Tryz.prog ops Q rest (a.put o.dst v') w'):wpList Tryz.prog ops Q (o::rest) a (w.alloc (.cells #[.int .u8 n,.int .u8 m] 5)):=by
 obtain⟨i0,hi,hz0,hz1,hz2⟩:=info_parts Tryz.infoByte
 subst hc hd
 refine wpList_append_own _ hgd s x 119 ho base 5 i0 (.int .u8 0) 1 1 Tryz.underlying119 hi hz0 hz1 hz2 rfl (by decide) v l.length (bs l) hs (hown.alloc _) ⟨w.heap.size,0,none⟩ 2 2 [.int .u8 (c.toNat:Int),.int .u8 (d.toNat:Int)] hx rfl ?_ ?_ ?_ ?_ ?_ ?_
 · intro j u hj
   match j,hj with
   | 0,hj=>simp at hj;subst hj;simp[Addr.add]
   | 1,hj=>simp at hj;subst hj;simp[Addr.add]
 · intro u hu;simp at hu;rcases hu with rfl | rfl<;>rfl
 · unfold maxLen;omega
 · omega
 · simp;omega
 · intro v' w' h1 h2 _
   refine h v' w' ?_ ?_
   · unfold OwnB
     have e:bs (l++[c,d])=bs l++[.int .u8 (c.toNat:Int),.int .u8 (d.toNat:Int)]:=by simp[bs]
     rw[e,List.length_append];exact h1
   · refine((Below.refl base w).alloc hbase (.cells #[.int .u8 (c.toNat:Int),.int .u8 (d.toNat:Int)] 5)).grown h2 (by simp;omega) ?_
     intro k hk
     exact(World.ownsRow.lt hown k hk).1
end Go.Proofs.YtlnhaajjoplafaaGreatDoor
