import Derived.Test.YtgbljlabifpmgaaGreatDoorP12
import Derived.Test.YtgbljlabifpmgaaGreatDoorP9
import Derived.Test.YtgbljlabifpmgaaGreatDoorP18
import Derived.Laws.AppendOwnNone
import Derived.Test.YtgbljlabifpmgaaGreatDoorP20
import Derived.BigQuiet
set_option linter.unusedVariables false
set_option maxHeartbeats 12000000
namespace Go.Proofs.YtgbljlabifpmgaaGreatDoor
open Go.RowKit
set_option maxRecDepth 100000
theorem qbt {a b c:World}(h:Below a.heap.size a b)(k:Below b.heap.size b c):Below a.heap.size a c:=h.trans (k.mono h.size)
theorem quick_any (s:ByteArray)(us:List Tk)(w:World)(hs:s.size≤maxLen)(h:readL s.data.toList= .ok us):
 Calls Tryz.prog 7 #[.string s] w fun e w'=>BareC us us.length e w'∧Below w.heap.size w w':=by
 have HW:=words_any s w hs
 rw[h]at HW
 have h3:=read_many h
 clear h
 go_enter Tryz.func7,Tryz.ntmps7
 go_wp2_with fail
 refine HW.mono ?_
 rintro e w1 ⟨⟨q1,c1,rfl,hk1,_⟩,hb1⟩
 go_wp2_with fail
 refine(bare_c us us.length q1 c1 w1 hk1 rfl h3).mono ?_
 rintro e w2 ⟨⟨q2,c2,rfl,hk2⟩,hb2⟩
 go_wp2
 go_ret
 exact⟨⟨q2,c2,rfl,hk2⟩,qbt hb1 hb2⟩
theorem append_toks (w:World){ops:Array Oper}{rest:List Oper}{o:Oper}{a:Act}{Q:Exit→Act→World→Prop}(hgd:o.guard=none)(s x:Operand)
 (ho:o.op= .call { callee:=.builtin .append,args:= #[s,x],argTypes:= #[23,23] })
 (base:Nat) (v:Value) (L:List Tk) (hs:a.eval s=v) (hown:OTk w base v L) (M:List Tk) (n:Nat) (hn:M.length=n) (q:Option Addr) (c:Nat) (hN:TKL w q M)
 (hx:a.eval x= .slice q n c) (hq:q=none→c=0) (hlen:L.length+M.length≤1099511627776) (hbase:base≤w.heap.size)
 (h:∀v' w',OTk w' base v' (L++M)→Below base w w'→wpList Tryz.prog ops Q rest (a.put o.dst v') w'):wpList Tryz.prog ops Q (o::rest) a w:=by
 subst hn
 obtain⟨i0,hi,hz0,hz1,hz2⟩:=info_parts Tryz.infoTok
 cases q with
 | none=>
   obtain rfl:=hq rfl
   obtain rfl:M=[]:=by
    rcases hN with h0 | ⟨b,o,h0,_⟩
    · exact h0
    · cases h0
   refine wpList_append_own_none hgd s x 23 ho base 43 i0 3 Tryz.underlying23 hi v L.length (tcells L) hs hown hx ?_
   exact h v w (by rw[List.append_nil];exact hown) (Below.refl _ _)
 | some ad=>
   refine wpList_append_own _ hgd s x 23 ho base 43 i0 _ 3 32 Tryz.underlying23 hi hz0 hz1 hz2 rfl (by decide) v L.length (tcells L) hs hown ad M.length c (tcells M) hx (tcells_length M) ?_ ?_ (by unfold maxLen;omega) (by omega) hbase ?_
   · intro j u hu
     have hj:j<M.length*3:=by rw[←tcells_length];exact(List.getElem?_eq_some_iff.1 hu).1
     obtain⟨b,off,rfl,_,h5⟩:∃b off,ad=⟨b,off,none⟩∧b<w.heap.size∧∀i x,M[i]? =some x→w.cell? ⟨b,off+i*3,none⟩=some (.int .i64 x.kind)∧w.cell? ⟨b,off+(i*3+1),none⟩=some (.string x.s)∧w.cell? ⟨b,off+(i*3+2),none⟩=some (.int .i64 x.at_):=by
      rcases hN with h0 | ⟨b,o,h0,h1,h2⟩
      · subst h0;simp at hj
      · cases h0;exact⟨b,o,rfl,h1,h2⟩
     have hadd:(⟨b,off,none⟩:Addr).add j=⟨b,off+j,none⟩:=by unfold Addr.add;split<;>simp_all
     rw[hadd]
     have hi3:j / 3<M.length:=by omega
     have hx':=List.getElem?_eq_getElem hi3
     obtain⟨k1,k2,k3⟩:=tcells_at M (j / 3) _ hx'
     obtain⟨c1,c2,c3⟩:=h5 (j / 3) _ hx'
     have hj3:j=j / 3*3∨j=j / 3*3+1∨j=j / 3*3+2:=by omega
     rcases hj3 with e | e | e
     · rw[e]at hu ⊢; rw[k1]at hu;cases hu;exact c1
     · rw[e]at hu ⊢; rw[k2]at hu;cases hu;exact c2
     · rw[e]at hu ⊢; rw[k3]at hu;cases hu;exact c3
   · intro u hu
     clear hx hN hlen h
     induction M with
     | nil=>simp[tcells]at hu
     | cons t r ih=>
       simp only[tcells,List.mem_cons]at hu
       rcases hu with rfl | rfl | rfl | hu
       · rfl
       · rfl
       · rfl
       · exact ih hu
   · intro v' w' h1 h2 _
     refine h v' w' ?_ ((Below.refl base w).grown h2 hbase (fun k hk=>(World.ownsRow.lt hown k hk).1))
     unfold OTk
     rw[tcells_append,List.length_append]
     exact h1
theorem OTk.lit (w:World)(t:Tk):OTk (w.alloc (.cells #[.int .i64 t.kind,.string t.s,.int .i64 t.at_] 43)) w.heap.size (.slice (some ⟨w.heap.size,0,none⟩) 1 1) [t]:=
 ⟨rfl,.inr ⟨w.heap.size,1,_,rfl,Nat.le_refl _,heap_alloc_new _ _,Nat.le_refl _,by unfold maxLen;omega,rfl,rfl⟩⟩
theorem OTk.lit0 (w:World):OTk (w.alloc (.cells #[] 43)) w.heap.size (.slice (some ⟨w.heap.size,0,none⟩) 0 0) []:=
 ⟨rfl,.inr ⟨w.heap.size,0,_,rfl,Nat.le_refl _,heap_alloc_new _ _,Nat.le_refl _,Nat.zero_le _,rfl,rfl⟩⟩
theorem ON.lit2 (w:World)(x y:Nd)(hx:x.wf)(hy:y.wf):ON (w.alloc (.cells #[.int .i64 x.op,.int .i64 x.n,.string x.s,.string x.t,.int .i64 y.op,.int .i64 y.n,.string y.s,.string y.t] 29)) w.heap.size (.slice (some ⟨w.heap.size,0,none⟩) 2 2) [x,y]:=
 ⟨⟨rfl,.inr ⟨w.heap.size,2,_,rfl,Nat.le_refl _,heap_alloc_new _ _,Nat.le_refl _,by unfold maxLen;omega,rfl,rfl⟩⟩,by simp[hx,hy]⟩
theorem num_fn (n:Int)(w:World):
 Calls Tryz.prog 5 #[.int .i64 n] w fun e w'=>e= .returned (.agg #[.int .i64 2,.int .i64 n,.string ⟨#[]⟩,.string ⟨#[]⟩])∧Below w.heap.size w w':=by
 go_enter Tryz.func5,Tryz.ntmps5
 go_wp2
 refine bodyPost_ret (v:=.agg #[.int .i64 2,.int .i64 n,.string ⟨#[]⟩,.string ⟨#[]⟩]) (by simp[results,Tryz.results5,go_sem]) rfl ⟨rfl,?_⟩
 exact(Below.refl _ _).alloc (Nat.le_refl _) _
theorem qba {a b:World}(h:Below a.heap.size a b)(o:Obj):Below a.heap.size a (b.alloc o):=qbt h ((Below.refl _ _).alloc (Nat.le_refl _) o)
theorem qbn {a b:World}(h:Below a.heap.size a b)(n:Nat):Below a.heap.size a (b.drewN n):=⟨h.os,h.tape,h.output,h.size,h.block⟩
theorem num_wf {n:Int}(h:n≤9223372036854775807):(⟨2,n,⟨#[]⟩,⟨#[]⟩⟩:Nd).wf:=⟨by unfold maxLen;show 0≤_;decide,by unfold maxLen;show 0≤_;decide,h⟩
def TRet (M:List Tk)(n:Nat)(e:Ending)(w':World):Prop:=∃q c,e= .returned (.slice q n c)∧TKL w' q M∧(q=none→c=0)∧n≤c∧c≤maxLen
theorem OTk.none0 {w:World}{base:Nat}{q:Option Addr}{n c:Nat}{L:List Tk}(h:OTk w base (.slice q n c) L):q=none→c=0:=by
 rintro rfl
 rcases h.2 with⟨h1,_⟩ | ⟨g,cap,cur,h1,_⟩
 · cases h1;rfl
 · cases h1
theorem level_any (op:Int)(w:World)(h:1≤op∧op≤27):Calls Tryz.prog 23 #[.int .i64 op] w fun en w'=>en= .returned (.int .i64 (lvO op:Int))∧w'=w:=by
 obtain⟨n,rfl⟩:∃n:Nat,op=n:=⟨op.toNat,by omega⟩
 have hn:n=1∨n=2∨n=3∨n=4∨n=5∨n=6∨n=7∨n=8∨n=9∨n=10∨n=11∨n=12∨n=13∨n=14∨n=15∨n=16∨n=17∨n=18∨n=19∨n=20∨n=21∨n=22∨n=23∨n=24∨n=25∨n=26∨n=27:=by omega
 go_enter Tryz.func23,Tryz.ntmps23
 rcases hn with rfl | rfl | rfl | rfl | rfl | rfl | rfl | rfl | rfl | rfl | rfl | rfl | rfl | rfl | rfl | rfl | rfl | rfl | rfl | rfl | rfl | rfl | rfl | rfl | rfl | rfl | rfl<;>(go_wp2;go_ret;exact⟨rfl,rfl⟩)
theorem word_any (k:Int)(s:ByteArray)(w:World)(hs:s.size≤maxLen):
 Calls Tryz.prog 26 #[.int .i64 k,.string s] w fun e w'=>TRet [⟨k,s,0⟩] 1 e w'∧Below w.heap.size w w':=by
 go_enter Tryz.func26,Tryz.ntmps26
 go_wp2
 go_ret
 refine⟨⟨_,_,rfl,.inr ⟨w.heap.size,0,rfl,by simp,fun i x hx=>?_⟩,(fun h=>absurd h (by simp)),Nat.le_refl _,(by unfold maxLen;decide)⟩,(Below.refl _ _).alloc (Nat.le_refl _) _⟩
 match i,hx with
 | 0,hx=>simp at hx;subst hx;simp
theorem glued_any (A B:List Tk)(na nb:Nat)(hna:A.length=na)(hnb:B.length=nb)(p q:Option Addr)(c d:Nat)(w:World)(ha:TKL w p A)(hb:TKL w q B)(hp:p=none→c=0)(hq:q=none→d=0)(hl:na+nb≤1000000):
 Calls Tryz.prog 25 #[.slice p na c,.slice q nb d] w fun e w'=>TRet (A++B) (na+nb) e w'∧Below w.heap.size w w':=by
 subst hna hnb
 go_enter Tryz.func25,Tryz.ntmps25
 go_wp2_with (first
  | (at_builtin;refine append_toks _ rfl _ _ rfl w.heap.size (.slice none 0 0) [] rfl (OTk.nil _ _) A _ rfl p c ha rfl hp (by simp;omega) (Nat.le_refl _) ?_;intro v1 w1 h1 hb1;rw[List.nil_append]at h1;have hB:=hb.up hb1;have hs1:=hb1.size)
  | (at_builtin;refine append_toks _ rfl _ _ rfl w.heap.size v1 A rfl h1 B _ rfl q d hB rfl hq (by omega) hs1 ?_;intro v2 w2 h2 hb2))
 obtain⟨q2,c2,rfl,hk2,hc1,hc2,_⟩:=h2.slice
 have hn2:=h2.none0
 go_wp2
 go_ret
 rw[List.length_append]at hc1 ⊢
 exact⟨⟨q2,c2,rfl,hk2,hn2,hc1,hc2⟩,hb1.trans hb2⟩
structure TArg (w:World)(M:List Tk)(n:Nat)(q:Option Addr)(c:Nat):Prop where
 len:M.length=n
 tk:TKL w q M
 z:q=none→c=0
theorem TRet.arg {M:List Tk}{n:Nat}{e:Ending}{w':World}(h:TRet M n e w')(hn:M.length=n):∃q c,e= .returned (.slice q n c)∧TArg w' M n q c:=by
 obtain⟨q,c,h1,h2,h3,_⟩:=h
 exact⟨q,c,h1,hn,h2,h3⟩
theorem TArg.up {w w':World}{M:List Tk}{n:Nat}{q:Option Addr}{c:Nat}(h:TArg w M n q c)(hb:Below w.heap.size w w'):TArg w' M n q c:=⟨h.len,h.tk.up hb,h.z⟩
theorem word_one (k:Int)(s:ByteArray)(w:World)(hs:s.size≤maxLen):
 Calls Tryz.prog 26 #[.int .i64 k,.string s] w fun e w'=>(∃q c,e= .returned (.slice q 1 c)∧TArg w' [⟨k,s,0⟩] 1 q c)∧Below w.heap.size w w':=
 (word_any k s w hs).mono fun e w' ⟨h,hb⟩=>⟨h.arg rfl,hb⟩
theorem glue {A B:List Tk}{na nb:Nat}{p q:Option Addr}{c d:Nat}{w:World}(ha:TArg w A na p c)(hb:TArg w B nb q d)(hl:na+nb≤1000000):
 Calls Tryz.prog 25 #[.slice p na c,.slice q nb d] w fun e w'=>(∃q' c',e= .returned (.slice q' (na+nb) c')∧TArg w' (A++B) (na+nb) q' c')∧Below w.heap.size w w':=
 (glued_any A B na nb ha.len hb.len p q c d w ha.tk hb.tk ha.z hb.z hl).mono fun e w' ⟨h,k⟩=>⟨h.arg (by rw[List.length_append,ha.len,hb.len]),k⟩
theorem bracketed_any {A:List Tk}{na:Nat}{p:Option Addr}{c:Nat}{w:World}(ha:TArg w A na p c)(hl:na≤900000):
 Calls Tryz.prog 28 #[.slice p na c] w fun e w'=>(∃q' c',e= .returned (.slice q' (na+2) c')∧TArg w' (brk A) (na+2) q' c')∧Below w.heap.size w w':=by
 go_enter Tryz.func28,Tryz.ntmps28
 go_wp2_with fail
 refine(word_one 5 ⟨#[40]⟩ w (by unfold maxLen;decide)).mono ?_
 rintro e w1 ⟨⟨q1,c1,rfl,h1⟩,hb1⟩
 go_wp2_with fail
 refine(glue h1 (ha.up hb1) (by omega)).mono ?_
 rintro e w2 ⟨⟨q2,c2,rfl,h2⟩,hb2'⟩
 have hb2:=qbt hb1 hb2'
 go_wp2_with fail
 refine(word_one 5 ⟨#[41]⟩ w2 (by unfold maxLen;decide)).mono ?_
 rintro e w3 ⟨⟨q3,c3,rfl,h3⟩,hb3'⟩
 have hb3:=qbt hb2 hb3'
 go_wp2_with fail
 refine(glue (h2.up hb3') h3 (by omega)).mono ?_
 rintro e w4 ⟨⟨q4,c4,rfl,h4⟩,hb4'⟩
 have hb4:=qbt hb3 hb4'
 go_wp2
 go_ret
 have e0:1+na+1=na+2:=by omega
 rw[e0]at h4 ⊢
 exact⟨⟨q4,c4,rfl,h4⟩,hb4⟩
def sg9:Nat→ByteArray
 | 0=>⟨#[124,124]⟩ | 1=>⟨#[38,38]⟩ | 2=>⟨#[61,61]⟩ | 3=>⟨#[60]⟩ | 4=>⟨#[60,61]⟩ | 5=>⟨#[105,110]⟩ | 6=>⟨#[43]⟩ | 7=>⟨#[45]⟩ | _=>⟨#[42]⟩
def op9:Nat→Int
 | 0=>12 | 1=>11 | 2=>14 | 3=>15 | 4=>16 | 5=>20 | 6=>17 | 7=>18 | _=>19
theorem nine {k:Nat}(h:k≤8):k=0∨k=1∨k=2∨k=3∨k=4∨k=5∨k=6∨k=7∨k=8:=by omega
theorem between_k (k:Nat)(h:k≤8)(w:World):Calls Tryz.prog 52 #[.string (sg9 k)] w fun e w'=>e= .returned (.int .i64 (op9 k))∧w'=w:=by
 go_enter Tryz.func52,Tryz.ntmps52
 rcases nine h with rfl | rfl | rfl | rfl | rfl | rfl | rfl | rfl | rfl<;>(unfold sg9 op9;go_wp2;go_ret;exact⟨rfl,rfl⟩)
theorem sg9_at {k:Nat}(h:k≤8):(#[.string ⟨#[124,124]⟩,.string ⟨#[38,38]⟩,.string ⟨#[61,61]⟩,.string ⟨#[60]⟩,.string ⟨#[60,61]⟩,.string ⟨#[105,110]⟩,.string ⟨#[43]⟩,.string ⟨#[45]⟩,.string ⟨#[42]⟩]:Array Value)[k]? =some (.string (sg9 k)):=by
 rcases nine h with rfl | rfl | rfl | rfl | rfl | rfl | rfl | rfl | rfl<;>rfl
theorem op9_inj {j k:Nat}(hj:j≤8)(hk:k≤8)(h:op9 j=op9 k):j=k:=by
 rcases nine hj with rfl | rfl | rfl | rfl | rfl | rfl | rfl | rfl | rfl<;>rcases nine hk with rfl | rfl | rfl | rfl | rfl | rfl | rfl | rfl | rfl<;>first | rfl | (exact absurd h (by decide))
theorem signW9 {k:Nat}(h:k≤8):signW (op9 k)=⟨if k=5 then 1 else 5,sg9 k,0⟩:=by
 rcases nine h with rfl | rfl | rfl | rfl | rfl | rfl | rfl | rfl | rfl<;>kernel_rfl
theorem signOf_any (k:Nat)(hk:k≤8)(w:World):
 Calls Tryz.prog 27 #[.int .i64 (op9 k)] w fun e w'=>(∃q c,e= .returned (.slice q 1 c)∧TArg w' [signW (op9 k)] 1 q c)∧Below w.heap.size w w':=by
 have HS:Hid (signW (op9 k)=⟨if k=5 then 1 else 5,sg9 k,0⟩):=signW9 hk
 have hw:sg9 k=⟨#[105,110]⟩↔k=5:=by
  rcases nine hk with rfl | rfl | rfl | rfl | rfl | rfl | rfl | rfl | rfl<;>unfold sg9<;>simp
 have hbl:Below w.heap.size w (w.alloc (.cells #[.string ⟨#[124,124]⟩,.string ⟨#[38,38]⟩,.string ⟨#[61,61]⟩,.string ⟨#[60]⟩,.string ⟨#[60,61]⟩,.string ⟨#[105,110]⟩,.string ⟨#[43]⟩,.string ⟨#[45]⟩,.string ⟨#[42]⟩] 9)):=(Below.refl _ _).alloc (Nat.le_refl _) _
 have hcl:∀j,j≤8→(w.alloc (.cells #[.string ⟨#[124,124]⟩,.string ⟨#[38,38]⟩,.string ⟨#[61,61]⟩,.string ⟨#[60]⟩,.string ⟨#[60,61]⟩,.string ⟨#[105,110]⟩,.string ⟨#[43]⟩,.string ⟨#[45]⟩,.string ⟨#[42]⟩] 9)).cell? ⟨w.heap.size,j,none⟩=some (.string (sg9 j)):=fun j hj=>by
  rw[World.cell?_alloc_at _ _ w.heap.size j rfl];exact sg9_at hj
 have hsz:∀j,(sg9 j).size≤maxLen:=fun j=>by
  by_cases hj:j≤8
  · rcases nine hj with rfl | rfl | rfl | rfl | rfl | rfl | rfl | rfl | rfl<;>(unfold maxLen;decide)
  · have:sg9 j=⟨#[42]⟩:=by unfold sg9;split<;>first | omega | rfl
    rw[this];unfold maxLen;decide
 go_enter Tryz.func27,Tryz.ntmps27
 go_wp2_with fail
 generalize w.alloc (.cells #[.string ⟨#[124,124]⟩,.string ⟨#[38,38]⟩,.string ⟨#[61,61]⟩,.string ⟨#[60]⟩,.string ⟨#[60,61]⟩,.string ⟨#[105,110]⟩,.string ⟨#[43]⟩,.string ⟨#[45]⟩,.string ⟨#[42]⟩] 9)=W at *
 go_loopw [4] (fun i wr=>∃j:Nat,j≤k∧i= .int .i64 j∧(∀j,j≤8→wr.cell? ⟨w.heap.size,j,none⟩=some (.string (sg9 j)))∧Below w.heap.size w wr) (fun i _=>9-(intOf i).toNat)
 case atStart=>exact⟨0,Nat.zero_le _,rfl,hcl,hbl⟩
 case round=>
  rename World=>V
  obtain⟨j,hj,rfl,hcv,hbv⟩:=hrel
  have hj8:j≤8:=by omega
  have i1:(j:Int)<9:=by omega
  have c0:=hcv j hj8
  have HB:=fun w=>between_k j hj8 w
  have HC:Hid (∀j,j≤8→V.cell? ⟨w.heap.size,j,none⟩=some (.string (sg9 j))):=hcv
  clear hcv hcl
  by_cases he:j=k
  · subst he
    have hz:=hsz j
    have ee:(op9 j == op9 j)=true:=by simp
    by_cases h5:j=5
    · have e5:((sg9 j).toList == [105,110])=true:=by rw[hw.2 h5,ByteArray.toList_eq];rfl
      have E5:Hid ((⟨if j=5 then 1 else 5,sg9 j,0⟩:Tk)=⟨1,⟨#[105,110]⟩,0⟩):=by show _=_;rw[hw.2 h5,if_pos h5]
      clear hw h5 hsz
      go_wp2_with (go_at_call 52;refine(HB _).mono ?_;rintro e w1 ⟨rfl,rfl⟩)
      refine(word_one 1 ⟨#[105,110]⟩ _ (by unfold maxLen;decide)).mono ?_
      rintro e w2 ⟨⟨q2,c2,rfl,h2⟩,hb2⟩
      go_wp2
      go_ret
      rw[HS.out.trans E5.out]
      exact⟨⟨q2,c2,rfl,h2⟩,hbv.trans (hb2.mono hbv.size)⟩
    · have e5:((sg9 j).toList == [105,110])=false:=by
       rw[ByteArray.toList_eq]
       rcases nine hj8 with rfl | rfl | rfl | rfl | rfl | rfl | rfl | rfl | rfl<;>first | rfl | exact absurd rfl h5
      have E5:Hid ((⟨if j=5 then 1 else 5,sg9 j,0⟩:Tk)=⟨5,sg9 j,0⟩):=by show _=_;rw[if_neg h5]
      clear hw h5 hsz
      go_wp2_with (go_at_call 52;refine(HB _).mono ?_;rintro e w1 ⟨rfl,rfl⟩)
      refine(word_one 5 (sg9 j) _ hz).mono ?_
      rintro e w2 ⟨⟨q2,c2,rfl,h2⟩,hb2⟩
      go_wp2
      go_ret
      rw[HS.out.trans E5.out]
      exact⟨⟨q2,c2,rfl,h2⟩,hbv.trans (hb2.mono hbv.size)⟩
  · have ee:(op9 j == op9 k)=false:=by
     have:¬op9 j=op9 k:=fun h=>he (op9_inj hj8 hk h)
     simpa using this
    clear hsz hw
    go_wp2_with (go_at_call 52;refine(HB _).mono ?_;rintro e w1 ⟨rfl,rfl⟩)
    exact⟨⟨j+1,by omega,by go_num,HC.out,hbv⟩,by simp[intOf];omega⟩
end Go.Proofs.YtgbljlabifpmgaaGreatDoor
