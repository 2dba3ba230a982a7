import Derived.Test.YtlnhaajjoplafaaGreatDoorT32
import Derived.Test.YtlnhaajjoplafaaGreatDoorT38
import Derived.Test.YtlnhaajjoplafaaGreatDoorT27
import Derived.Test.YtlnhaajjoplafaaGreatDoorT21
import Derived.Test.YtlnhaajjoplafaaGreatDoorT11
import Derived.Test.YtlnhaajjoplafaaGreatDoorT22
import Derived.Test.YtlnhaajjoplafaaGreatDoorT25
set_option linter.unusedVariables false
set_option maxHeartbeats 12000000
namespace Go.Proofs.YtlnhaajjoplafaaGreatDoor
open Go.RowKit
set_option maxRecDepth 100000
def votE:Except Int Bool→Int
 | .ok true=>1
 | .ok false=>0
 | .error _=> -1
theorem auV_vote (es:List En)(q:Rq)(p:Po):auV es q p=votE (pvL es q p):=by
 unfold auV votE
 rfl
theorem sc_low {v:Bool}{s:Sco}(h:scOk v s=true)(hs:hsl s=false):s.op<5:=by
 by_cases h5:s.op<5
 · exact h5
 · exfalso
   unfold hsl at hs
   unfold scOk at h
   simp only[Bool.or_eq_false_iff,decide_eq_false_iff_not]at hs
   rw[if_neg (by omega),if_neg (by omega),if_neg (by omega),if_neg (by omega),if_neg (by omega)]at h
   cases h
theorem auval_any {es:List En}{ps:Option Addr}(cs:Nat){q:Rq}{pq:Option Addr}{cq:Nat}{y:Po}(hy:auOk y)(h7:stf es=0)(h8:askf q=0)(h64:P64 y)(W:World)(hE:EvArg W es ps q pq cq){q2:Option Addr}{c2:Nat}(hA:AK0 W (poE y) q2 c2):
 Calls Tryz.prog 8 #[.slice ps es.length cs,reqV q pq cq,.slice q2 (poE y).length c2] W fun r w'=>(∃v f,r= .returned (.tuple #[v,f])∧Ans w' (bindE (pvL es q y) fun b=>.ok (tN b)) v f)∧Below W.heap.size W w':=by
 obtain⟨h0,hl,hw,hx⟩:=hy
 obtain⟨_,g2,g3,g4,_⟩:=pof_ways h0
 obtain⟨hpx,hpv⟩:=pol_val (es:=es) (q:=q) h0 hl (sc_low g2 hw) (sc_low g4 hx)
 have hR:valueL es q (poE y)=bindE (pvL es q y) fun b=>.ok (tN b):=by rw[valueL_ex hpx,if_pos h7,if_pos h8];exact hpv
 exact evalue_arg cs W hE ⟨rfl,hA.nl,hA.le,hA.cm,poE_64 h64⟩ hR
end Go.Proofs.YtlnhaajjoplafaaGreatDoor
namespace Go.Proofs.YtlnhaajjoplafaaGreatDoor
open Go.RowKit Go.Deep
set_option linter.unusedSimpArgs false
set_option linter.unusedSectionVars false
set_option maxRecDepth 100000
def ansZ:Array Value:= #[.bool false,.slice none 0 0,.slice none 0 0]
theorem auB_one {f:Po→Int}(b:Bool)(y:Po):auB f b [y]=if y.fb=b∧f y=1 then[y.nm]else[]:=by
 unfold auB
 by_cases h1:y.fb=b<;>by_cases h2:f y=1<;>simp[h1,h2]
theorem auB_step {f:Po→Int}(b:Bool)(l:List Po)(y:Po):auB f b (l++[y])=auB f b l++(if y.fb=b∧f y=1 then[y.nm]else[]):=by rw[auB_append,auB_one]
theorem auW_step {f:Po→Int}(l:List Po)(y:Po):auW f (l++[y])=auW f l++(if f y= -1 then[y.nm]else[]):=by rw[auW_append,(au_one y).2.1]
theorem OT.tl {w:World}{base:Nat}{p:Option Addr}{n c:Nat}{l:List ByteArray}(h:OT w base (.slice p n c) l):TL w p l:=by
 obtain⟨q,d,e,h1,_⟩:=h.texts
 injection e with e1 _ _
 rw[e1];exact h1
theorem auval_err {es:List En}{ps:Option Addr}(cs:Nat){q:Rq}{pq:Option Addr}{cq:Nat}{y:Po}(hy:auOk y)(h7:stf es=0)(h8:askf q=0)(h64:P64 y){n:Int}(hv:pvL es q y= .error n)(W:World)(hE:EvArg W es ps q pq cq){q2:Option Addr}{c2:Nat}(hA:AK0 W (poE y) q2 c2):
 Calls Tryz.prog 8 #[.slice ps es.length cs,reqV q pq cq,.slice q2 (poE y).length c2] W fun r w'=>r= .returned (.tuple #[.slice none 0 0,.iface 70 (.int .i64 n)])∧Below W.heap.size W w':=by
 refine(auval_any cs hy h7 h8 h64 W hE hA).mono ?_
 rintro r w' ⟨⟨v,f,rfl,h⟩,hb⟩
 rw[hv]at h
 obtain⟨rfl,rfl⟩:=h
 exact⟨rfl,hb⟩
theorem auval_ok {es:List En}{ps:Option Addr}(cs:Nat){q:Rq}{pq:Option Addr}{cq:Nat}{y:Po}(hy:auOk y)(h7:stf es=0)(h8:askf q=0)(h64:P64 y){b:Bool}(hv:pvL es q y= .ok b)(W:World)(hE:EvArg W es ps q pq cq){q2:Option Addr}{c2:Nat}(hA:AK0 W (poE y) q2 c2):
 Calls Tryz.prog 8 #[.slice ps es.length cs,reqV q pq cq,.slice q2 (poE y).length c2] W fun r w'=>(∃B off c,r= .returned (.tuple #[.slice (some ⟨B,off,none⟩) 1 c,.nilIface])∧B<w'.heap.size∧w'.cell? ⟨B,off,none⟩=some (.int .i64 1)∧w'.cell? ⟨B,off+1,none⟩=some (.int .i64 (if b then 1 else 0)))∧Below W.heap.size W w':=by
 refine(auval_any cs hy h7 h8 h64 W hE hA).mono ?_
 rintro r w' ⟨⟨v,f,rfl,h⟩,hb⟩
 rw[hv]at h
 obtain⟨p,c,rfl,rfl,h⟩:=h
 obtain⟨B,off,rfl,hB,c0,c1,_⟩:=h.nl.at (i:=0) (show 0<(tN b).length from Nat.one_pos)
 exact⟨⟨B,off,c,rfl,hB,by simpa[tN]using c0,by simpa[tN]using c1⟩,hb⟩
section
variable (es:List En) (ps:Option Addr) (cs:Nat) (L:List Po) (pl:Option Addr) (cl:Nat) (q:Rq) (pq:Option Addr) (cq:Nat) (w:World) (ha:EvArg w es ps q pq cq) (hp:PArg w L L.length pl cl)
include ha hp
theorem ask_err1 {m:Int}(h1:stf es=m)(hm:m≠0):
 Calls Tryz.prog 6 #[.slice ps es.length cs,.slice pl L.length cl,reqV q pq cq] w fun e w'=>e= .returned (.tuple #[.agg #[.bool false,.slice none 0 0,.slice none 0 0],.iface 70 (.int .i64 m)])∧Below w.heap.size w w':=by
 obtain⟨V,hV⟩:∃V,V=(w.alloc (.cells #[.string q.who.t,.string q.who.i,.string q.act.t,.string q.act.i,.string q.what.t,.string q.what.i,.slice pq q.cx.length cq] 32)).alloc (.cells ansZ 40):=⟨_,rfl⟩
 have hbV:Below w.heap.size w V:=by rw[hV];exact kqx
 have HZ:Hid (∀W,Below V.heap.size V W→QB W w.heap.size q pq cq∧Blk W (w.heap.size+1) ansZ 40):=fun W hW=>by
  have h1:QB V w.heap.size q pq cq:=by rw[hV];exact(QB.new w q pq cq).up kqx
  have h2:Blk V (w.heap.size+1) ansZ 40:=by rw[hV];exact Blk.new _ _ _ (by simp)
  exact⟨h1.up hW,h2.up hW⟩
 have HVS:Hid (w.heap.size+1<V.heap.size):=(HZ.out V (Below.refl _ _)).2.lt
 have HEA:Hid (∀W,Below V.heap.size V W→EvArg W es ps q pq cq):=fun W hW=>ha.up (kqt hbV hW)
 have HPA:Hid (∀W,Below V.heap.size V W→PArg W L L.length pl cl):=fun W hW=>hp.up (kqt hbV hW)
 have HST:=entCheck_any es ps cs V (HEA.out V (Below.refl _ _)).el
 rw[h1,eV_not hm]at HST
 clear ha hp h1 hm HEA HPA
 unfold ansZ at hV
 unfold reqV at *
 go_enter Tryz.func6,Tryz.ntmps6
 go_wp2_with fail
 rw[←hV]
 clear hV
 refine HST.mono ?_
 rintro _ w1 ⟨rfl,hb1⟩
 clear HST
 have hz:=(HZ.out w1 hb1).2
 have e0:w1.cell? ⟨w.heap.size+1,0,none⟩=some (.bool false):=hz.cell 0
 have e1:w1.cell? ⟨w.heap.size+1,1,none⟩=some (.slice none 0 0):=hz.cell 1
 have e2:w1.cell? ⟨w.heap.size+1,2,none⟩=some (.slice none 0 0):=hz.cell 2
 have g0:=hz.free 0
 have g1:=hz.free 1
 have g2:=hz.free 2
 go_wp2_with fail
 obtain⟨X,hX⟩:∃X,X=((w1.setCell ⟨w.heap.size+1,0,none⟩ (.bool false)).setCell ⟨w.heap.size+1,1,none⟩ (.slice none 0 0)).setCell ⟨w.heap.size+1,2,none⟩ (.slice none 0 0):=⟨_,rfl⟩
 rw[←hX]
 obtain⟨hBX,hKX⟩:=hz.put3 hX
 have hbX:Below w.heap.size w X:=(kqt hbV hb1).trans (hKX.below (by have:=hbV.size;have:=hb1.size;omega) (fun a e=>by omega))
 have x0:X.cell? ⟨w.heap.size+1,0,none⟩=some (.bool false):=hBX.cell 0
 have x1:X.cell? ⟨w.heap.size+1,1,none⟩=some (.slice none 0 0):=hBX.cell 1
 have x2:X.cell? ⟨w.heap.size+1,2,none⟩=some (.slice none 0 0):=hBX.cell 2
 clear hX e0 e1 e2
 refine bodyPost_ret (v:=.tuple #[.agg #[.bool false,.slice none 0 0,.slice none 0 0],.iface 70 (.int .i64 m)]) (by simp[results,Tryz.results6,go_sem,x0,x1,x2]) rfl ⟨rfl,hbX⟩
theorem ask_err2 {m:Int}(h1:stf es=0)(h2:auC L=m)(hm:m≠0):
 Calls Tryz.prog 6 #[.slice ps es.length cs,.slice pl L.length cl,reqV q pq cq] w fun e w'=>e= .returned (.tuple #[.agg #[.bool false,.slice none 0 0,.slice none 0 0],.iface 70 (.int .i64 m)])∧Below w.heap.size w w':=by
 obtain⟨V,hV⟩:∃V,V=(w.alloc (.cells #[.string q.who.t,.string q.who.i,.string q.act.t,.string q.act.i,.string q.what.t,.string q.what.i,.slice pq q.cx.length cq] 32)).alloc (.cells ansZ 40):=⟨_,rfl⟩
 have hbV:Below w.heap.size w V:=by rw[hV];exact kqx
 have HZ:Hid (∀W,Below V.heap.size V W→QB W w.heap.size q pq cq∧Blk W (w.heap.size+1) ansZ 40):=fun W hW=>by
  have h1:QB V w.heap.size q pq cq:=by rw[hV];exact(QB.new w q pq cq).up kqx
  have h2:Blk V (w.heap.size+1) ansZ 40:=by rw[hV];exact Blk.new _ _ _ (by simp)
  exact⟨h1.up hW,h2.up hW⟩
 have HVS:Hid (w.heap.size+1<V.heap.size):=(HZ.out V (Below.refl _ _)).2.lt
 have HEA:Hid (∀W,Below V.heap.size V W→EvArg W es ps q pq cq):=fun W hW=>ha.up (kqt hbV hW)
 have HPA:Hid (∀W,Below V.heap.size V W→PArg W L L.length pl cl):=fun W hW=>hp.up (kqt hbV hW)
 have HST:=entCheck_any es ps cs V (HEA.out V (Below.refl _ _)).el
 rw[eV_nil h1]at HST
 obtain⟨n,hn⟩:∃n,n=L.length:=⟨_,rfl⟩
 rw[←hn]at HPA ⊢
 have HCK:=fun W (hW:Below V.heap.size V W)=>exprsOf_bad L n pl cl W (HPA.out W hW) (by rw[h2];exact hm)
 rw[h2]at HCK
 clear ha hp h1 h2 hm HEA HPA hn
 unfold ansZ at hV
 unfold reqV at *
 go_enter Tryz.func6,Tryz.ntmps6
 go_wp2_with fail
 rw[←hV]
 clear hV
 refine HST.mono ?_
 rintro _ w1 ⟨rfl,hb1⟩
 clear HST
 go_wp2_with fail
 refine(HCK _ hb1).mono ?_
 rintro _ w2 ⟨rfl,hb2'⟩
 have hb2:=kqt hb1 hb2'
 clear HCK hb2'
 have hz:=(HZ.out w2 hb2).2
 have e0:w2.cell? ⟨w.heap.size+1,0,none⟩=some (.bool false):=hz.cell 0
 have e1:w2.cell? ⟨w.heap.size+1,1,none⟩=some (.slice none 0 0):=hz.cell 1
 have e2:w2.cell? ⟨w.heap.size+1,2,none⟩=some (.slice none 0 0):=hz.cell 2
 have g0:=hz.free 0
 have g1:=hz.free 1
 have g2:=hz.free 2
 go_wp2_with fail
 obtain⟨X,hX⟩:∃X,X=((w2.setCell ⟨w.heap.size+1,0,none⟩ (.bool false)).setCell ⟨w.heap.size+1,1,none⟩ (.slice none 0 0)).setCell ⟨w.heap.size+1,2,none⟩ (.slice none 0 0):=⟨_,rfl⟩
 rw[←hX]
 obtain⟨hBX,hKX⟩:=hz.put3 hX
 have hbX:Below w.heap.size w X:=(kqt hbV hb2).trans (hKX.below (by have:=hbV.size;have:=hb2.size;omega) (fun a e=>by omega))
 have x0:X.cell? ⟨w.heap.size+1,0,none⟩=some (.bool false):=hBX.cell 0
 have x1:X.cell? ⟨w.heap.size+1,1,none⟩=some (.slice none 0 0):=hBX.cell 1
 have x2:X.cell? ⟨w.heap.size+1,2,none⟩=some (.slice none 0 0):=hBX.cell 2
 clear hX e0 e1 e2
 refine bodyPost_ret (v:=.tuple #[.agg #[.bool false,.slice none 0 0,.slice none 0 0],.iface 70 (.int .i64 m)]) (by simp[results,Tryz.results6,go_sem,x0,x1,x2]) rfl ⟨rfl,hbX⟩
theorem ask_err3 {m:Int}(h1:stf es=0)(h2:auC L=0)(h3:askf q=m)(hm:m≠0):
 Calls Tryz.prog 6 #[.slice ps es.length cs,.slice pl L.length cl,reqV q pq cq] w fun e w'=>e= .returned (.tuple #[.agg #[.bool false,.slice none 0 0,.slice none 0 0],.iface 70 (.int .i64 m)])∧Below w.heap.size w w':=by
 obtain⟨V,hV⟩:∃V,V=(w.alloc (.cells #[.string q.who.t,.string q.who.i,.string q.act.t,.string q.act.i,.string q.what.t,.string q.what.i,.slice pq q.cx.length cq] 32)).alloc (.cells ansZ 40):=⟨_,rfl⟩
 have hbV:Below w.heap.size w V:=by rw[hV];exact kqx
 have HZ:Hid (∀W,Below V.heap.size V W→QB W w.heap.size q pq cq∧Blk W (w.heap.size+1) ansZ 40):=fun W hW=>by
  have h1:QB V w.heap.size q pq cq:=by rw[hV];exact(QB.new w q pq cq).up kqx
  have h2:Blk V (w.heap.size+1) ansZ 40:=by rw[hV];exact Blk.new _ _ _ (by simp)
  exact⟨h1.up hW,h2.up hW⟩
 have HVS:Hid (w.heap.size+1<V.heap.size):=(HZ.out V (Below.refl _ _)).2.lt
 have HEA:Hid (∀W,Below V.heap.size V W→EvArg W es ps q pq cq):=fun W hW=>ha.up (kqt hbV hW)
 have HPA:Hid (∀W,Below V.heap.size V W→PArg W L L.length pl cl):=fun W hW=>hp.up (kqt hbV hW)
 have HST:=entCheck_any es ps cs V (HEA.out V (Below.refl _ _)).el
 rw[eV_nil h1]at HST
 obtain⟨n,hn⟩:∃n,n=L.length:=⟨_,rfl⟩
 rw[←hn]at HPA ⊢
 have HCK:=fun W (hW:Below V.heap.size V W)=>exprsOf_good L n pl cl W (HPA.out W hW) h2
 have HAK:=fun W (hW:Below V.heap.size V W)=>ask_any q pq cq W (HEA.out W hW).rq
 rw[h3,eV_not hm]at HAK
 clear ha hp h1 h2 h3 hm HEA HPA hn
 unfold ansZ at hV
 unfold reqV at *
 go_enter Tryz.func6,Tryz.ntmps6
 go_wp2_with fail
 rw[←hV]
 clear hV
 refine HST.mono ?_
 rintro _ w1 ⟨rfl,hb1⟩
 clear HST
 go_wp2_with fail
 refine(HCK _ hb1).mono ?_
 rintro _ w2 ⟨⟨qx,cx,rfl,_⟩,hb2'⟩
 have hb2:=kqt hb1 hb2'
 clear HCK hb2'
 obtain⟨y0,y1,y2,y3,y4,y5,y6⟩:=(HZ.out w2 hb2).1.cells
 have lq:w.heap.size<w2.heap.size:=(HZ.out w2 hb2).1.lt
 go_wp2_with fail
 refine(HAK _ hb2).mono ?_
 rintro _ w3 ⟨rfl,hb3'⟩
 have hb3:=kqt hb2 hb3'
 clear HAK hb3' y0 y1 y2 y3 y4 y5 y6 lq
 have hz:=(HZ.out w3 hb3).2
 have e0:w3.cell? ⟨w.heap.size+1,0,none⟩=some (.bool false):=hz.cell 0
 have e1:w3.cell? ⟨w.heap.size+1,1,none⟩=some (.slice none 0 0):=hz.cell 1
 have e2:w3.cell? ⟨w.heap.size+1,2,none⟩=some (.slice none 0 0):=hz.cell 2
 have g0:=hz.free 0
 have g1:=hz.free 1
 have g2:=hz.free 2
 go_wp2_with fail
 obtain⟨X,hX⟩:∃X,X=((w3.setCell ⟨w.heap.size+1,0,none⟩ (.bool false)).setCell ⟨w.heap.size+1,1,none⟩ (.slice none 0 0)).setCell ⟨w.heap.size+1,2,none⟩ (.slice none 0 0):=⟨_,rfl⟩
 rw[←hX]
 obtain⟨hBX,hKX⟩:=hz.put3 hX
 have hbX:Below w.heap.size w X:=(kqt hbV hb3).trans (hKX.below (by have:=hbV.size;have:=hb3.size;omega) (fun a e=>by omega))
 have x0:X.cell? ⟨w.heap.size+1,0,none⟩=some (.bool false):=hBX.cell 0
 have x1:X.cell? ⟨w.heap.size+1,1,none⟩=some (.slice none 0 0):=hBX.cell 1
 have x2:X.cell? ⟨w.heap.size+1,2,none⟩=some (.slice none 0 0):=hBX.cell 2
 clear hX e0 e1 e2
 refine bodyPost_ret (v:=.tuple #[.agg #[.bool false,.slice none 0 0,.slice none 0 0],.iface 70 (.int .i64 m)]) (by simp[results,Tryz.results6,go_sem,x0,x1,x2]) rfl ⟨rfl,hbX⟩
theorem ask_ok (h1:stf es=0)(h2:auC L=0)(h3:askf q=0):
 Calls Tryz.prog 6 #[.slice ps es.length cs,.slice pl L.length cl,reqV q pq cq] w fun e w'=>(∃v,e= .returned (.tuple #[v,.nilIface])∧AnsP w' es q L v)∧Below w.heap.size w w':=by
 obtain⟨V,hV⟩:∃V,V=(w.alloc (.cells #[.string q.who.t,.string q.who.i,.string q.act.t,.string q.act.i,.string q.what.t,.string q.what.i,.slice pq q.cx.length cq] 32)).alloc (.cells ansZ 40):=⟨_,rfl⟩
 have hbV:Below w.heap.size w V:=by rw[hV];exact kqx
 have HZ:Hid (∀W,Below V.heap.size V W→QB W w.heap.size q pq cq∧Blk W (w.heap.size+1) ansZ 40):=fun W hW=>by
  have h1:QB V w.heap.size q pq cq:=by rw[hV];exact(QB.new w q pq cq).up kqx
  have h2:Blk V (w.heap.size+1) ansZ 40:=by rw[hV];exact Blk.new _ _ _ (by simp)
  exact⟨h1.up hW,h2.up hW⟩
 have HVS:Hid (w.heap.size+1<V.heap.size):=(HZ.out V (Below.refl _ _)).2.lt
 have HEA:Hid (∀W,Below V.heap.size V W→EvArg W es ps q pq cq):=fun W hW=>ha.up (kqt hbV hW)
 have HPA:Hid (∀W,Below V.heap.size V W→PArg W L L.length pl cl):=fun W hW=>hp.up (kqt hbV hW)
 have HST:=entCheck_any es ps cs V (HEA.out V (Below.refl _ _)).el
 rw[eV_nil h1]at HST
 obtain⟨n,hn⟩:∃n,n=L.length:=⟨_,rfl⟩
 rw[←hn]at HPA ⊢
 have HCK:=fun W (hW:Below V.heap.size V W)=>exprsOf_good L n pl cl W (HPA.out W hW) h2
 have HAK:=fun W (hW:Below V.heap.size V W)=>ask_any q pq cq W (HEA.out W hW).rq
 rw[eV_nil h3]at HAK
 obtain⟨g1,g2,_⟩:=auC_zero.1 h2
 have HOK:Hid (∀p∈L,auOk p):=g2
 have HS1:Hid (stf es=0∧askf q=0):=⟨h1,h3⟩
 have hn12:n≤12:=by rw[hn];exact g1
 have HN:Hid (n=L.length):=hn
 obtain⟨f,hf⟩:∃f,f=auV es q:=⟨_,rfl⟩
 have HF:Hid (f=auV es q):=hf
 have hcm:=(HPA.out V (Below.refl _ _)).cm
 have hle:=(HPA.out V (Below.refl _ _)).le
 unfold maxLen at hcm
 clear ha hp h1 h2 h3 g1 g2 hn hf
 unfold ansZ at hV
 unfold reqV at *
 go_enter Tryz.func6,Tryz.ntmps6
 go_wp2_with fail
 rw[←hV]
 clear hV
 refine HST.mono ?_
 rintro _ w1 ⟨rfl,hb1⟩
 clear HST
 go_wp2_with fail
 refine(HCK _ hb1).mono ?_
 rintro _ w2 ⟨⟨qx,cx,rfl,hxl⟩,hb2'⟩
 have hb2:=kqt hb1 hb2'
 have HXL:Hid (∀W,Below w2.heap.size w2 W→LL W qx (L.map poE)):=fun W hW=>hxl.up hW
 clear HCK hb2' hxl
 obtain⟨y0,y1,y2,y3,y4,y5,y6⟩:=(HZ.out w2 hb2).1.cells
 have lq:w.heap.size<w2.heap.size:=(HZ.out w2 hb2).1.lt
 go_wp2_with fail
 refine(HAK _ hb2).mono ?_
 rintro _ G ⟨rfl,hbG'⟩
 have hbG:=kqt hb2 hbG'
 have HXG:Hid (∀W,Below G.heap.size G W→LL W qx (L.map poE)):=fun W hW=>HXL.out W (kqt hbG' hW)
 clear HAK hbG' HXL y0 y1 y2 y3 y4 y5 y6 lq
 go_wp2_with fail
 go_loopw [12,13,14,42] (fun v1 v2 v3 i wr=>∃k:Nat,k≤n∧i= .int .i64 k∧Hid (Below G.heap.size G wr)∧Hid (Tx3 wr G.heap.size v1 (auB f false (L.take k)) v2 (auB f true (L.take k)) v3 (auW f (L.take k)))) (fun _ _ _ i _=>n-(intOf i).toNat)
 case atStart=>exact⟨0,Nat.zero_le _,rfl,Below.refl _ _,by show Tx3 _ _ _ _ _ _ _ _;exact Tx3.nil _ _⟩
 case round=>
  obtain⟨k,hk,rfl,HB,HX⟩:=hrel
  have hbr:Below V.heap.size V wr:=kqt hbG HB.out
  by_cases hlt:k<n
  · have i1:(k:Int)<(n:Int):=by omega
    have hkl:k<L.length:=by have:=HN.out;omega
    have HTK:Hid (L.take (k+1)=L.take k++[L[k]]):=List.take_succ_eq_append_getElem hkl
    have HYM:Hid (L[k]∈L):=List.getElem_mem hkl
    obtain⟨b,off,pc,cc,e0,hbw,hpo,k0,k1,k2,k3,k4,k5,k6,k7,k8,k9,k10,k11,k12,k13,k14⟩:=(HPA.out wr hbr).pl.at hkl
    subst e0
    obtain⟨be,oe,qe,ce,e1,hbe,zx,zn,zl,zc⟩:=(HXG.out wr HB.out).at (i:=k) (by rw[List.length_map];exact hkl)
    subst e1
    rw[List.getElem_map]at zx zn zl
    have h64:=(HPA.out wr hbr).num _ HYM.out
    generalize L[k]=y at *
    obtain⟨W5,hW5⟩:∃W,W=wr.alloc (.cells (poC y pc cc) 29):=⟨_,rfl⟩
    have hb5:Below wr.heap.size wr W5:=by rw[hW5];exact kqx
    have hb5V:=kqt hbr hb5
    have HBY:Hid (∀W,Below W5.heap.size W5 W→Blk W wr.heap.size (poC y pc cc) 29):=fun W hW=>by
     have:Blk W5 wr.heap.size (poC y pc cc) 29:=by rw[hW5];exact Blk.new _ _ _ rfl
     exact this.up hW
    have hAK:AK0 W5 (poE y) qe ce:=(show AK0 wr (poE y) qe ce from⟨zn,zl,zc⟩).up hb5
    have HER:=fun m (hm:pvL es q y= .error m) W (hW:Below W5.heap.size W5 W)=>auval_err cs (HOK.out y HYM.out) HS1.out.1 HS1.out.2 h64 hm W (HEA.out W (kqt hb5V hW)) (hAK.up hW)
    have HVO:=fun m (hm:pvL es q y= .ok m) W (hW:Below W5.heap.size W5 W)=>auval_ok cs (HOK.out y HYM.out) HS1.out.1 HS1.out.2 h64 hm W (HEA.out W (kqt hb5V hW)) (hAK.up hW)
    have zx5:=(hb5.cell (p:=⟨be,oe+k,none⟩) hbe).trans zx
    have hbe5:be<W5.heap.size:=Nat.lt_of_lt_of_le hbe hb5.size
    have HZX:Hid (W5.cell? ⟨be,oe+k,none⟩=some (.slice qe (poE y).length ce)∧be<W5.heap.size):=⟨zx5,hbe5⟩
    have HYQ:Hid (QB W5 w.heap.size q pq cq):=(HZ.out W5 hb5V).1
    have hfy:f y=votE (pvL es q y):=by rw[HF.out];exact auV_vote es q y
    obtain⟨pv,hpv⟩:∃pv,pv=pvL es q y:=⟨_,rfl⟩
    rw[←hpv]at HER HVO hfy
    obtain⟨ne,hne⟩:∃ne,ne=(poE y).length:=⟨_,rfl⟩
    rw[←hne]at HER HVO zl
    have HNE:Hid (ne=(poE y).length):=hne
    unfold reqV at HER HVO
    unfold poC at hW5
    obtain⟨y0,y1,y2,y3,y4,y5,y6⟩:=(HZ.out wr hbr).1.cells
    have lq:w.heap.size<wr.heap.size:=(HZ.out wr hbr).1.lt
    have HXT:Hid (Tx3 wr G.heap.size u12 _ u13 _ u14 _):=HX.out
    obtain⟨fb,hfb⟩:∃fb,fb=y.fb:=⟨_,rfl⟩
    have HFB:Hid (fb=y.fb):=hfb
    have hn41:(auB f false (L.take k)).length+1≤1099511627776:=by have:=auB_len (f:=f) (b:=false) (ps:=L.take k);rw[List.length_take]at this;omega
    have hn42:(auB f true (L.take k)).length+1≤1099511627776:=by have:=auB_len (f:=f) (b:=true) (ps:=L.take k);rw[List.length_take]at this;omega
    have hn43:(auW f (L.take k)).length+1≤1099511627776:=by have:=auW_len (f:=f) (ps:=L.take k);rw[List.length_take]at this;omega
    have HN4:Hid (_∧_∧_):=⟨hn41,hn42,hn43⟩
    clear hpo h64 HX hAK hpv hne hfb zn zx zl hbe zx5 hbe5 hn41 hn42 hn43
    cases pv with
    | error m=>
      have q2:f y= -1:=hfy
      have q1:¬f y=1:=by omega
      have HQ:Hid (f y= -1∧¬f y=1):=⟨q2,q1⟩
      have HH:=HER m rfl
      clear HER HVO hfy q1 q2
      go_wp2_with fail
      rw[←hW5]
      clear hW5
      clear y0 y1 y2 y3 y4 y5 y6 lq k0 k1 k2 k3 k4 k5 k6 k7 k8 k9 k10 k11 k12 k13 k14 hbw
      obtain⟨y0,y1,y2,y3,y4,y5,y6⟩:=HYQ.out.cells
      have lq:w.heap.size<W5.heap.size:=HYQ.out.lt
      obtain⟨zx,hbe⟩:=HZX.out
      rw[←HNE.out]at zx
      go_region_with (go_at_call 8;refine(HH _ kqx).mono ?_;rintro _ w6 ⟨rfl,hb6'⟩;have hb6:Below W5.heap.size W5 w6:=kqt kqx hb6';clear hb6')
      all_goals
       clear HH
       clear y0 y1 y2 y3 y4 y5 y6 lq zx hbe
       have hx6:=HXT.out.up (kqt hb5 hb6)
       have hbG6:Below G.heap.size G w6:=kqt HB.out (kqt hb5 hb6)
       have z0:w6.cell? ⟨wr.heap.size,0,none⟩=some (.string y.nm):=(HBY.out w6 hb6).cell 0
       have z1:w6.cell? ⟨wr.heap.size,1,none⟩=some (.bool y.fb):=(HBY.out w6 hb6).cell 1
       have lz:wr.heap.size<w6.heap.size:=(HBY.out w6 hb6).lt
       rw[←HFB.out]at z1
       have HX6:Hid (Tx3 w6 G.heap.size u12 _ u13 _ u14 _):=hx6
       have hGs:=hbG6.size
       clear hx6
       have ho1:=HX6.out.rot.rot.o1
       have hn4:=HN4.out.2.2
       go_wp2_with (at_builtin;refine append_textS w6 rfl (.tmp 72) (.tmp 75) rfl G.heap.size u14 (auW f (L.take k)) rfl ho1 y.nm rfl hn4 hGs ?_;intro v' w' h7 h8 h9 h10;have HO:Hid (OT w' G.heap.size v' _∧Below G.heap.size w6 w'∧(∀g,g<w6.heap.size→u14.ownBlock≠some g→w'.heap[g]? =w6.heap[g]?)∧(∀g,v'.ownBlock=some g→u14.ownBlock=some g∨w6.heap.size≤g)):=⟨h7,h8,h9,h10⟩;clear h7 h8 h9 h10)
       go_roundw
       case rel=>
        refine⟨k+1,by omega,by go_num,hbG6.trans HO.out.2.1,?_⟩
        show Tx3 _ _ _ _ _ _ _ _
        rw[HTK.out,auB_step,auB_step,auW_step,if_neg (fun h=>HQ.out.2 h.2),if_neg (fun h=>HQ.out.2 h.2),if_pos HQ.out.1,List.append_nil,List.append_nil]
        exact(HX6.out.rot.rot.put HO.out.1 HO.out.2.2.1 HO.out.2.2.2).rot
       case measure=>simp[intOf];omega
    | ok bv=>
      have HH:=HVO bv rfl
      cases bv
      · have q1:¬f y=1:=by rw[hfy];decide
        have q2:¬f y= -1:=by rw[hfy];decide
        have HQ:Hid (¬f y= -1∧¬f y=1):=⟨q2,q1⟩
        clear HER HVO hfy q1 q2
        go_wp2_with fail
        rw[←hW5]
        clear hW5
        clear y0 y1 y2 y3 y4 y5 y6 lq k0 k1 k2 k3 k4 k5 k6 k7 k8 k9 k10 k11 k12 k13 k14 hbw
        obtain⟨y0,y1,y2,y3,y4,y5,y6⟩:=HYQ.out.cells
        have lq:w.heap.size<W5.heap.size:=HYQ.out.lt
        obtain⟨zx,hbe⟩:=HZX.out
        rw[←HNE.out]at zx
        go_region_with (go_at_call 8;refine(HH _ kqx).mono ?_;rintro _ w6 ⟨⟨B7,o7,c7,rfl,hB7,d0,d1⟩,hb6'⟩;have hb6:Below W5.heap.size W5 w6:=kqt kqx hb6';clear hb6')
        all_goals
         clear HH
         clear y0 y1 y2 y3 y4 y5 y6 lq zx hbe
         have hx6:=HXT.out.up (kqt hb5 hb6)
         have hbG6:Below G.heap.size G w6:=kqt HB.out (kqt hb5 hb6)
         have z0:w6.cell? ⟨wr.heap.size,0,none⟩=some (.string y.nm):=(HBY.out w6 hb6).cell 0
         have z1:w6.cell? ⟨wr.heap.size,1,none⟩=some (.bool y.fb):=(HBY.out w6 hb6).cell 1
         have lz:wr.heap.size<w6.heap.size:=(HBY.out w6 hb6).lt
         rw[←HFB.out]at z1
         have HX6:Hid (Tx3 w6 G.heap.size u12 _ u13 _ u14 _):=hx6
         have hGs:=hbG6.size
         clear hx6
         have HX7:Hid (Tx3 w6 G.heap.size u12 (auB f false (L.take (k+1))) u13 (auB f true (L.take (k+1))) u14 (auW f (L.take (k+1)))):=by
          show Tx3 _ _ _ _ _ _ _ _
          rw[HTK.out,auB_step,auB_step,auW_step,if_neg (fun h=>HQ.out.2 h.2),if_neg (fun h=>HQ.out.2 h.2),if_neg HQ.out.1,List.append_nil,List.append_nil,List.append_nil]
          exact HX6.out
         simp only[Bool.false_eq_true,if_false]at d1
         go_wp2_with fail
         go_roundw
         case rel=>exact⟨k+1,by omega,by go_num,hbG6,HX7⟩
         case measure=>simp[intOf];omega
      · have q1:f y=1:=hfy
        have q2:¬f y= -1:=by omega
        have HQ:Hid (¬f y= -1∧f y=1):=⟨q2,q1⟩
        clear HER HVO hfy q1 q2
        go_wp2_with fail
        rw[←hW5]
        clear hW5
        clear y0 y1 y2 y3 y4 y5 y6 lq k0 k1 k2 k3 k4 k5 k6 k7 k8 k9 k10 k11 k12 k13 k14 hbw
        obtain⟨y0,y1,y2,y3,y4,y5,y6⟩:=HYQ.out.cells
        have lq:w.heap.size<W5.heap.size:=HYQ.out.lt
        obtain⟨zx,hbe⟩:=HZX.out
        rw[←HNE.out]at zx
        go_region_with (go_at_call 8;refine(HH _ kqx).mono ?_;rintro _ w6 ⟨⟨B7,o7,c7,rfl,hB7,d0,d1⟩,hb6'⟩;have hb6:Below W5.heap.size W5 w6:=kqt kqx hb6';clear hb6')
        all_goals
         clear HH
         clear y0 y1 y2 y3 y4 y5 y6 lq zx hbe
         have hx6:=HXT.out.up (kqt hb5 hb6)
         have hbG6:Below G.heap.size G w6:=kqt HB.out (kqt hb5 hb6)
         have z0:w6.cell? ⟨wr.heap.size,0,none⟩=some (.string y.nm):=(HBY.out w6 hb6).cell 0
         have z1:w6.cell? ⟨wr.heap.size,1,none⟩=some (.bool y.fb):=(HBY.out w6 hb6).cell 1
         have lz:wr.heap.size<w6.heap.size:=(HBY.out w6 hb6).lt
         rw[←HFB.out]at z1
         have HX6:Hid (Tx3 w6 G.heap.size u12 _ u13 _ u14 _):=hx6
         have hGs:=hbG6.size
         clear hx6
         simp only[if_true]at d1
         cases fb
         · skip
           have ho1:=HX6.out.o1
           have hn4:=HN4.out.1
           go_wp2_with (at_builtin;refine append_textS w6 rfl (.tmp 57) (.tmp 60) rfl G.heap.size u12 (auB f false (L.take k)) rfl ho1 y.nm rfl hn4 hGs ?_;intro v' w' h7 h8 h9 h10;have HO:Hid (OT w' G.heap.size v' _∧Below G.heap.size w6 w'∧(∀g,g<w6.heap.size→u12.ownBlock≠some g→w'.heap[g]? =w6.heap[g]?)∧(∀g,v'.ownBlock=some g→u12.ownBlock=some g∨w6.heap.size≤g)):=⟨h7,h8,h9,h10⟩;clear h7 h8 h9 h10)
           go_roundw
           case rel=>
            refine⟨k+1,by omega,by go_num,hbG6.trans HO.out.2.1,?_⟩
            show Tx3 _ _ _ _ _ _ _ _
            rw[HTK.out,auB_step,auB_step,auW_step,if_pos ⟨HFB.out.symm,HQ.out.2⟩,if_neg (by rw[←HFB.out];simp),if_neg HQ.out.1,List.append_nil,List.append_nil]
            exact HX6.out.put HO.out.1 HO.out.2.2.1 HO.out.2.2.2
           case measure=>simp[intOf];omega
         · skip
           have ho1:=HX6.out.rot.o1
           have hn4:=HN4.out.2.1
           go_wp2_with (at_builtin;refine append_textS w6 rfl (.tmp 86) (.tmp 89) rfl G.heap.size u13 (auB f true (L.take k)) rfl ho1 y.nm rfl hn4 hGs ?_;intro v' w' h7 h8 h9 h10;have HO:Hid (OT w' G.heap.size v' _∧Below G.heap.size w6 w'∧(∀g,g<w6.heap.size→u13.ownBlock≠some g→w'.heap[g]? =w6.heap[g]?)∧(∀g,v'.ownBlock=some g→u13.ownBlock=some g∨w6.heap.size≤g)):=⟨h7,h8,h9,h10⟩;clear h7 h8 h9 h10)
           go_roundw
           case rel=>
            refine⟨k+1,by omega,by go_num,hbG6.trans HO.out.2.1,?_⟩
            show Tx3 _ _ _ _ _ _ _ _
            rw[HTK.out,auB_step,auB_step,auW_step,if_neg (by rw[←HFB.out];simp),if_pos ⟨HFB.out.symm,HQ.out.2⟩,if_neg HQ.out.1,List.append_nil,List.append_nil]
            exact(HX6.out.rot.put HO.out.1 HO.out.2.2.1 HO.out.2.2.2).rot.rot
           case measure=>simp[intOf];omega
  · have i1:¬(k:Int)<(n:Int):=by omega
    have hx:=HX.out
    rw[List.take_of_length_le (by have:=HN.out;omega)]at hx
    obtain⟨p1,c1,rfl,t1,_⟩:=hx.o1.texts
    obtain⟨p2,c2,rfl,t2,_⟩:=hx.o2.texts
    obtain⟨p3,c3,rfl,t3,_⟩:=hx.o3.texts
    obtain⟨l1,hl1⟩:∃l,l=auB f false L:=⟨_,rfl⟩
    obtain⟨l2,hl2⟩:∃l,l=auB f true L:=⟨_,rfl⟩
    obtain⟨l3,hl3⟩:∃l,l=auW f L:=⟨_,rfl⟩
    rw[←hl1,←hl2,←hl3]at hx
    rw[←hl1]at t1 ⊢
    rw[←hl2]at t2 ⊢
    rw[←hl3]at t3 ⊢
    have HX3:Hid (Tx3 wr G.heap.size _ l1 _ l2 _ l3):=hx
    have HL:Hid (l1=auB (auV es q) false L∧l2=auB (auV es q) true L∧l3=auW (auV es q) L):=by rw[←HF.out];exact⟨hl1,hl2,hl3⟩
    have hz:=(HZ.out wr hbr).2
    have e0:wr.cell? ⟨w.heap.size+1,0,none⟩=some (.bool false):=hz.cell 0
    have e1:wr.cell? ⟨w.heap.size+1,1,none⟩=some (.slice none 0 0):=hz.cell 1
    have e2:wr.cell? ⟨w.heap.size+1,2,none⟩=some (.slice none 0 0):=hz.cell 2
    have g0:=hz.free 0
    have g1:=hz.free 1
    have g2:=hz.free 2
    clear hx t1 t2 t3 hl1 hl2 hl3 HX
    have HGS:=hbG.size
    by_cases hn2:l2=[]
    · have i2:¬ 0<l2.length:=by rw[hn2];simp
      have i3:l2.length=0:=by rw[hn2];rfl
      go_wp2_with fail
      obtain⟨X,hX⟩:∃X,X=((wr.setCell ⟨w.heap.size+1,0,none⟩ (.bool (decide (0<l1.length)))).setCell ⟨w.heap.size+1,1,none⟩ (.slice p1 l1.length c1)).setCell ⟨w.heap.size+1,2,none⟩ (.slice p3 l3.length c3):=⟨_,rfl⟩
      rw[←hX]
      obtain⟨hBX,hKX⟩:=hz.put3 hX
      have hbX:Below w.heap.size w X:=(kqt hbV hbr).trans (hKX.below (by have:=hbV.size;have:=hbr.size;omega) (fun a e=>by omega))
      have x0:X.cell? ⟨w.heap.size+1,0,none⟩=some (.bool (decide (0<l1.length))):=hBX.cell 0
      have x1:X.cell? ⟨w.heap.size+1,1,none⟩=some (.slice p1 l1.length c1):=hBX.cell 1
      have x2:X.cell? ⟨w.heap.size+1,2,none⟩=some (.slice p3 l3.length c3):=hBX.cell 2
      have hkeep:∀ {v:Value} {l:List ByteArray},OT wr G.heap.size v l→OT X G.heap.size v l:=fun h=>h.keepW (fun g hg hl=>hKX.block g hl (fun e=>by have:=(Row1.typed h g hg).1;have:=hbG.size;have:=HVS.out;have e2:g=w.heap.size+1:=e;omega))
      clear hX e0 e1 e2
      refine bodyPost_ret (v:=.tuple #[.agg #[.bool (decide (0<l1.length)),.slice p1 l1.length c1,.slice p3 l3.length c3],.nilIface]) (by simp[results,Tryz.results6,go_sem,x0,x1,x2]) rfl ⟨⟨_,rfl,?_⟩,hbX⟩
      obtain⟨q1,q2,q3⟩:=HL.out
      have hB:auBy (auV es q) L=l1:=by unfold auBy;rw[←q2,hn2,←q1];rfl
      have hA:auAl (auV es q) L=decide (0<l1.length):=by
       unfold auAl
       rw[←q2,hn2,←q1]
       cases l1<;>simp
      refine⟨p1,c1,p3,c3,?_,?_,?_⟩
      · rw[hB,hA,←q3]
      · rw[hB];exact(hkeep HX3.out.o1).tl
      · rw[←q3];exact(hkeep HX3.out.o3).tl
    · have i2:0<l2.length:=List.length_pos_iff.2 hn2
      go_wp2_with fail
      obtain⟨X,hX⟩:∃X,X=((wr.setCell ⟨w.heap.size+1,0,none⟩ (.bool false)).setCell ⟨w.heap.size+1,1,none⟩ (.slice p2 l2.length c2)).setCell ⟨w.heap.size+1,2,none⟩ (.slice p3 l3.length c3):=⟨_,rfl⟩
      rw[←hX]
      obtain⟨hBX,hKX⟩:=hz.put3 hX
      have hbX:Below w.heap.size w X:=(kqt hbV hbr).trans (hKX.below (by have:=hbV.size;have:=hbr.size;omega) (fun a e=>by omega))
      have x0:X.cell? ⟨w.heap.size+1,0,none⟩=some (.bool false):=hBX.cell 0
      have x1:X.cell? ⟨w.heap.size+1,1,none⟩=some (.slice p2 l2.length c2):=hBX.cell 1
      have x2:X.cell? ⟨w.heap.size+1,2,none⟩=some (.slice p3 l3.length c3):=hBX.cell 2
      have hkeep:∀ {v:Value} {l:List ByteArray},OT wr G.heap.size v l→OT X G.heap.size v l:=fun h=>h.keepW (fun g hg hl=>hKX.block g hl (fun e=>by have:=(Row1.typed h g hg).1;have:=hbG.size;have:=HVS.out;have e2:g=w.heap.size+1:=e;omega))
      clear hX e0 e1 e2
      refine bodyPost_ret (v:=.tuple #[.agg #[.bool false,.slice p2 l2.length c2,.slice p3 l3.length c3],.nilIface]) (by simp[results,Tryz.results6,go_sem,x0,x1,x2]) rfl ⟨⟨_,rfl,?_⟩,hbX⟩
      obtain⟨q1,q2,q3⟩:=HL.out
      have hE:l2.isEmpty=false:=by cases l2<;>simp at hn2 ⊢
      have hB:auBy (auV es q) L=l2:=by unfold auBy;rw[←q2,hE];rfl
      have hA:auAl (auV es q) L=false:=by
       unfold auAl
       rw[←q2,hE]
       rfl
      refine⟨p2,c2,p3,c3,?_,?_,?_⟩
      · rw[hB,hA,←q3]
      · rw[hB];exact(hkeep HX3.out.o2).tl
      · rw[←q3];exact(hkeep HX3.out.o3).tl
theorem ask_any0:Calls Tryz.prog 6 #[.slice ps es.length cs,.slice pl L.length cl,reqV q pq cq] w fun e w'=>AuRet w' es q L e∧Below w.heap.size w w':=by
 by_cases h1:stf es=0
 · by_cases h2:auC L=0
   · by_cases h3:askf q=0
     · refine(ask_ok es ps cs L pl cl q pq cq w ha hp h1 h2 h3).mono ?_
       rintro e w' ⟨h,hb⟩
       exact⟨by unfold AuRet;rw[if_pos (auE_zero.2 ⟨h1,h2,h3⟩)];exact h,hb⟩
     · refine(ask_err3 es ps cs L pl cl q pq cq w ha hp h1 h2 rfl h3).mono ?_
       rintro e w' ⟨h,hb⟩
       have he:auE es q L=askf q:=by unfold auE;rw[if_pos h1,if_pos h2]
       exact⟨by unfold AuRet;rw[he,if_neg h3];exact h,hb⟩
   · refine(ask_err2 es ps cs L pl cl q pq cq w ha hp h1 rfl h2).mono ?_
     rintro e w' ⟨h,hb⟩
     have he:auE es q L=auC L:=by unfold auE;rw[if_pos h1,if_neg h2]
     exact⟨by unfold AuRet;rw[he,if_neg h2];exact h,hb⟩
 · refine(ask_err1 es ps cs L pl cl q pq cq w ha hp rfl h1).mono ?_
   rintro e w' ⟨h,hb⟩
   have he:auE es q L=stf es:=by unfold auE;rw[if_neg h1]
   exact⟨by unfold AuRet;rw[he,if_neg h1];exact h,hb⟩
end
theorem ask_pols (es:List En)(ps:Option Addr)(cs:Nat)(L:List Po)(n:Nat)(pl:Option Addr)(cl:Nat)(q:Rq)(pq:Option Addr)(cq:Nat)(w:World)(ha:EvArg w es ps q pq cq)(hp:PArg w L n pl cl):
 Calls Tryz.prog 6 #[.slice ps es.length cs,.slice pl n cl,reqV q pq cq] w fun e w'=>AuRet w' es q L e∧Below w.heap.size w w':=by
 have hn:=hp.len
 subst hn
 exact ask_any0 es ps cs L pl cl q pq cq w ha hp
end Go.Proofs.YtlnhaajjoplafaaGreatDoor
namespace Go.Proofs.YtlnhaajjoplafaaGreatDoor
open Go.RowKit
set_option linter.unusedSimpArgs false
set_option maxRecDepth 100000
theorem pA1_po (w:World):PoA w pA1 none 0:=by
 have hu:UOk eU:=⟨Nat.zero_le _,Nat.zero_le _⟩
 have hs:ScoOk ⟨0,eB,eU⟩:=⟨Nat.zero_le _,hu⟩
 exact⟨by unfold maxLen;show 1≤_;omega,hs,hs,hs,.inl rfl,Nat.le_refl _,Nat.zero_le _⟩
theorem qA0_arg (w:World){W:World}(hW:W=w.alloc (.cells #[.int .i64 6,.int .i64 0,.string ⟨#[]⟩,.string ⟨#[]⟩] 47))(he:ErrVar W){B:Nat}(hB:B=w.heap.size):EvArg W [] none qA0 (some ⟨B,0,none⟩) 1:=by
 subst hW hB
 have hN:=NL.lit w qA0.cx #[.int .i64 6,.int .i64 0,.string ⟨#[]⟩,.string ⟨#[]⟩] (by intro x hx;simp only[qA0,List.mem_singleton]at hx;subst hx;exact⟨Nat.zero_le _,Nat.zero_le _,by show(0:Int)≤_;decide⟩) rfl (by decide)
 exact⟨.inl rfl,⟨uf_ok (by kernel_rfl),uf_ok (by kernel_rfl),uf_ok (by kernel_rfl),hN,by decide,by unfold maxLen;decide⟩,he,(fun e h=>by cases h),fun x hx h=>by
  simp only[qA0,List.mem_singleton]at hx
  subst hx
  exact absurd h (by decide:¬(6:Int)=2)⟩
theorem pA1_arg {w:World}{B:Nat}{T:TypeId}(h:Blk w B (poC pA1 none 0) T):PArg w [pA1] 1 (some ⟨B,0,none⟩) 1:=
 ⟨rfl,(Blk.pal (x:=⟨pA1,none,0⟩) h (pA1_po w)).pols,Nat.le_refl _,by unfold maxLen;decide,fun x hx=>by
  rw[List.mem_singleton]at hx
  subst hx
  exact fun c hc=>by cases hc⟩
theorem permitted_any (w:World)(he:ErrVar w):
 Calls Tryz.prog 4 #[] w fun e w'=>e= .returned (.bool true)∧Below w.heap.size w w':=by
 have HK:=fun n pl cl pq cq W ha hp=>ask_pols [] none 0 [pA1] n pl cl qA0 pq cq W ha hp
 unfold reqV at HK
 go_enter Tryz.func4,Tryz.ntmps4
 go_wp2_with fail
 refine(HK 1 _ _ _ _ _ ?_ ?_).mono ?_
 · exact qA0_arg _ rfl (errVar_below he kqx (Nat.le_refl _)) (by simp)
 · exact pA1_arg ((Blk.new (w.alloc (.cells #[.string ⟨#[65]⟩,.string ⟨#[]⟩] 24)) (poC pA1 none 0) 29 (by simp)).up kqx)
 rintro _ w1 ⟨h1,hb1⟩
 obtain⟨p1,c1,p2,c2,rfl,_,_⟩:=h1.good auE_A
 rw[auAl_A,auBy_A]
 have hb:Below w.heap.size w w1:=kqt kqx hb1
 clear HK h1 hb1
 go_wp2
 go_ret
 exact⟨rfl,kqt hb kqx⟩
end Go.Proofs.YtlnhaajjoplafaaGreatDoor
