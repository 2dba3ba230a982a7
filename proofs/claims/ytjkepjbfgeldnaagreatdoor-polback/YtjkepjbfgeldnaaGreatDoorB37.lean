import Derived.Test.YtjkepjbfgeldnaaGreatDoorB36
import Derived.Test.YtjkepjbfgeldnaaGreatDoorB32
import Derived.Test.YtjkepjbfgeldnaaGreatDoorB23
import Derived.Test.YtjkepjbfgeldnaaGreatDoorB8
import Derived.Test.YtjkepjbfgeldnaaGreatDoorB1
set_option linter.unusedVariables false
set_option maxHeartbeats 12000000
namespace Go.Proofs.YtjkepjbfgeldnaaGreatDoor
open Go.RowKit
set_option linter.unusedSimpArgs false
set_option maxRecDepth 100000
def Sm (l:List Tk):Prop:=∀t∈l,t.s.size≤60
theorem Sm.tail {l:List Tk}(h:Sm l):Sm l.tail:=fun t ht=>h t (List.mem_of_mem_tail ht)
theorem Sm.fs {l:List Tk}(h:Sm l):(fsT l).s.size≤60:=by
 cases l with
 | nil=>show 0≤60;omega
 | cons t r=>exact h t (by simp)
theorem Sm.ps {l:List Tk}(h:Sm l)(s:ByteArray):Sm (psT s l):=fun t ht=>by
 unfold psT at ht
 split at ht
 · exact h t (List.mem_of_mem_tail ht)
 · exact h t ht
theorem Sm.sc {l:List Tk}(h:Sm l):Sm (scR l).2:=fun t ht=>h t ((sc_less l).2 t ht)
theorem Sm.uid {l:List Tk}(h:Sm l):UOk (uidR l).1:=by
 have h1:=h.fs
 have h2:=(h.tail.ps kCC).fs
 unfold uidR UOk maxLen
 exact⟨by show(fsT l).s.size≤_;omega,by show(fsT (psT kCC l.tail)).s.size≤_;omega⟩
theorem uok_e:UOk eU:=⟨Nat.zero_le _,Nat.zero_le _⟩
theorem Sm.us {l:List Tk}(h:Sm l)(a b:Int):ScoOk (usR a b l).1:=by
 unfold usR
 split
 · exact⟨Nat.zero_le _,uok_e⟩
 · exact⟨Nat.zero_le _,h.uid⟩
theorem Sm.sco {l:List Tk}(h:Sm l):ScoOk (scR l).1:=by
 unfold scR
 split
 · exact h.tail.us _ _
 · split
   · exact h.tail.us _ _
   · split
     · unfold isR
       have h1:=h.tail.fs
       split
       · exact⟨by show(fsT l.tail).s.size≤maxLen;unfold maxLen;omega,h.tail.tail.tail.uid⟩
       · exact⟨by show(fsT l.tail).s.size≤maxLen;unfold maxLen;omega,uok_e⟩
     · exact⟨Nat.zero_le _,uok_e⟩
theorem poR_ok {ts:List Tk}(h:Sm ts){w:World}{q:Option Addr}{c:Nat}(h1:CdL w q (poR ts).cs)(h2:(poR ts).cs.length≤c)(h3:c≤maxLen):PoA w (poR ts) q c:=by
 have a1:Sm (r1 ts):=(((h.tail.ps kCol).tail).ps kOp).tail
 have a2:Sm (r2 ts):=(a1.sc.ps kCom).tail
 have a3:Sm (r3 ts):=(a2.sc.ps kCom).tail
 have h0:=h.fs
 exact⟨by show(fsT ts).s.size≤maxLen;unfold maxLen;omega,a1.sco,a2.sco,a3.sco,h1,h2,h3⟩
theorem cds_n64:∀(f:Nat) (l:List Tk),∀c∈cdsR f l,∀x∈c.ex,n64 x
 | 0,l,c,h=>by simp[cdsR]at h
 | f+1,l,c,h=>by
   unfold cdsR at h
   split at h
   · simp at h
   · rcases List.mem_cons.1 h with rfl | h
     · intro x hx
       unfold cdR exR at hx
       simp only at hx
       split at hx
       · rename_i e he;exact parse_n64 he x hx
       · simp at hx
     · exact cds_n64 f _ c h
theorem poR_n64 (ts:List Tk):∀c∈(poR ts).cs,∀x∈c.ex,n64 x:=cds_n64 _ _
def rdOf (R:Except Int (List UInt8))(l:List UInt8)(P:Po):Except Int Po:=match R with
 | .error _=>.error 1
 | .ok m=>if m=l then .ok P else .error 1
theorem readPL_ok {l:List UInt8}{ts:List Tk}(h:readL l= .ok ts):readPL l=rdOf (writeL (poR ts)) l (poR ts):=by
 unfold readPL rdOf
 rw[h]
 simp only
 cases writeL (poR ts)<;>rfl
def RdRet (R:Except Int Po)(en:Ending)(w':World):Prop:=match R with
 | .ok p=>∃q c,en= .returned (.tuple #[poV p q c,.nilIface])∧PoA w' p q c∧∀d∈p.cs,∀x∈d.ex,n64 x
 | .error n=>en= .returned (.tuple #[.agg #[.string ⟨#[]⟩,.bool false,.int .i64 0,.string ⟨#[]⟩,.string ⟨#[]⟩,.string ⟨#[]⟩,.int .i64 0,.string ⟨#[]⟩,.string ⟨#[]⟩,.string ⟨#[]⟩,.int .i64 0,.string ⟨#[]⟩,.string ⟨#[]⟩,.string ⟨#[]⟩,.slice none 0 0],.iface 41 (.int .i64 n)])
theorem errIn_keep {R:Nat}{w V w':World}(h:ErrIn w)(hb:Below w.heap.size w V)(hR:w.heap.size≤R)(k:Keep (fun x=>x=R) V w'):ErrIn w':=by
 obtain⟨ev,h1,h2⟩:=h
 have hlt:8<w.heap.size:=by
  simp only[World.cell?]at h1
  rcases Nat.lt_or_ge 8 w.heap.size with h' | h'
  · exact h'
  · rw[Array.getElem?_eq_none h']at h1;cases h1
 exact⟨ev,((k.cell (p:=⟨8,0,none⟩) (Nat.lt_of_lt_of_le hlt hb.size) (by intro e;have e2:8=R:=e;omega)).trans (hb.cell (p:=⟨8,0,none⟩) hlt)).trans h1,h2⟩
theorem tab_keep {R:Nat}{w V w':World}(h:Tab w)(hb:Below w.heap.size w V)(hR:w.heap.size≤R)(k:Keep (fun x=>x=R) V w'):Tab w':=by
 have hlt:4<w.heap.size:=by
  unfold Tab Lib.TabIs World.var? at h
  simp only[Tryz.gPow,Option.bind_some]at h
  rcases Nat.lt_or_ge 4 w.heap.size with h' | h'
  · exact h'
  · rw[Array.getElem?_eq_none h']at h;cases h
 exact h.keep ((k.block _ (Nat.lt_of_lt_of_le hlt hb.size) (by intro e;have e2:4=R:=e;omega)).trans (hb.block _ hlt))
theorem pread_bad (s:ByteArray)(w:World)(hs:s.size≤maxLen)(hT:Tab w)(hE:ErrIn w)(x:Int×Nat)(hR:readL s.data.toList= .error x):
 Calls Tryz.prog 5 #[.string s] w fun en w'=>RdRet (readPL s.data.toList) en w'∧Below w.heap.size w w':=by
 obtain⟨V,hV⟩:∃V,V=w.alloc (.cells #[.string ⟨#[]⟩,.bool false,.int .i64 0,.string ⟨#[]⟩,.string ⟨#[]⟩,.string ⟨#[]⟩,.int .i64 0,.string ⟨#[]⟩,.string ⟨#[]⟩,.string ⟨#[]⟩,.int .i64 0,.string ⟨#[]⟩,.string ⟨#[]⟩,.string ⟨#[]⟩,.slice none 0 0] 28):=⟨_,rfl⟩
 have hbV:Below w.heap.size w V:=by rw[hV];exact kqx
 have HK0:Hid (Blk V w.heap.size #[.string ⟨#[]⟩,.bool false,.int .i64 0,.string ⟨#[]⟩,.string ⟨#[]⟩,.string ⟨#[]⟩,.int .i64 0,.string ⟨#[]⟩,.string ⟨#[]⟩,.string ⟨#[]⟩,.int .i64 0,.string ⟨#[]⟩,.string ⟨#[]⟩,.string ⟨#[]⟩,.slice none 0 0] 28):=by rw[hV];exact Blk.new w _ _ rfl
 have HR:=read_any s V hs
 have HTb:Hid (Tab w):=hT
 have HEr:Hid (ErrIn w):=hE
 have HRL:Hid (∀ts,readL s.data.toList= .ok ts→readPL s.data.toList=rdOf (writeL (poR ts)) s.data.toList (poR ts)):=fun ts e=>readPL_ok e
 have HRE:Hid (∀x,readL s.data.toList= .error x→readPL s.data.toList= .error 1):=fun x e=>by unfold readPL;rw[e]
 clear hs hT hE
 have HRP:Hid (readPL s.data.toList= .error 1):=HRE.out x hR
 rw[hR]at HR
 clear HRL HRE hR
 unfold ReadPost at HR
 simp only at HR
 go_enter Tryz.func5,Tryz.ntmps5
 go_wp2_with fail
 rw[←hV]
 clear hV
 refine HR.mono ?_
 rintro _ w1 ⟨rfl,hb1⟩
 have HK1:Hid (Blk w1 w.heap.size #[.string ⟨#[]⟩,.bool false,.int .i64 0,.string ⟨#[]⟩,.string ⟨#[]⟩,.string ⟨#[]⟩,.int .i64 0,.string ⟨#[]⟩,.string ⟨#[]⟩,.string ⟨#[]⟩,.int .i64 0,.string ⟨#[]⟩,.string ⟨#[]⟩,.string ⟨#[]⟩,.slice none 0 0] 28):=HK0.out.up hb1
 have HB1:Hid (Below w.heap.size w w1):=kqt hbV hb1
 clear HK0 hb1 HR
 have x0:w1.cell? ⟨w.heap.size,0,none⟩=some (.string ⟨#[]⟩):=HK1.out.cell 0
 have fx0:=HK1.out.free 0
 have x1:w1.cell? ⟨w.heap.size,1,none⟩=some (.bool false):=HK1.out.cell 1
 have fx1:=HK1.out.free 1
 have x2:w1.cell? ⟨w.heap.size,2,none⟩=some (.int .i64 0):=HK1.out.cell 2
 have fx2:=HK1.out.free 2
 have x3:w1.cell? ⟨w.heap.size,3,none⟩=some (.string ⟨#[]⟩):=HK1.out.cell 3
 have fx3:=HK1.out.free 3
 have x4:w1.cell? ⟨w.heap.size,4,none⟩=some (.string ⟨#[]⟩):=HK1.out.cell 4
 have fx4:=HK1.out.free 4
 have x5:w1.cell? ⟨w.heap.size,5,none⟩=some (.string ⟨#[]⟩):=HK1.out.cell 5
 have fx5:=HK1.out.free 5
 have x6:w1.cell? ⟨w.heap.size,6,none⟩=some (.int .i64 0):=HK1.out.cell 6
 have fx6:=HK1.out.free 6
 have x7:w1.cell? ⟨w.heap.size,7,none⟩=some (.string ⟨#[]⟩):=HK1.out.cell 7
 have fx7:=HK1.out.free 7
 have x8:w1.cell? ⟨w.heap.size,8,none⟩=some (.string ⟨#[]⟩):=HK1.out.cell 8
 have fx8:=HK1.out.free 8
 have x9:w1.cell? ⟨w.heap.size,9,none⟩=some (.string ⟨#[]⟩):=HK1.out.cell 9
 have fx9:=HK1.out.free 9
 have x10:w1.cell? ⟨w.heap.size,10,none⟩=some (.int .i64 0):=HK1.out.cell 10
 have fx10:=HK1.out.free 10
 have x11:w1.cell? ⟨w.heap.size,11,none⟩=some (.string ⟨#[]⟩):=HK1.out.cell 11
 have fx11:=HK1.out.free 11
 have x12:w1.cell? ⟨w.heap.size,12,none⟩=some (.string ⟨#[]⟩):=HK1.out.cell 12
 have fx12:=HK1.out.free 12
 have x13:w1.cell? ⟨w.heap.size,13,none⟩=some (.string ⟨#[]⟩):=HK1.out.cell 13
 have fx13:=HK1.out.free 13
 have x14:w1.cell? ⟨w.heap.size,14,none⟩=some (.slice none 0 0):=HK1.out.cell 14
 have fx14:=HK1.out.free 14
 go_wp2
 obtain⟨X,hX⟩:∃X,X=(((((((((((((((w1).setCell ⟨w.heap.size,0,none⟩ (.string ⟨#[]⟩)).setCell ⟨w.heap.size,1,none⟩ (.bool false)).setCell ⟨w.heap.size,2,none⟩ (.int .i64 0)).setCell ⟨w.heap.size,3,none⟩ (.string ⟨#[]⟩)).setCell ⟨w.heap.size,4,none⟩ (.string ⟨#[]⟩)).setCell ⟨w.heap.size,5,none⟩ (.string ⟨#[]⟩)).setCell ⟨w.heap.size,6,none⟩ (.int .i64 0)).setCell ⟨w.heap.size,7,none⟩ (.string ⟨#[]⟩)).setCell ⟨w.heap.size,8,none⟩ (.string ⟨#[]⟩)).setCell ⟨w.heap.size,9,none⟩ (.string ⟨#[]⟩)).setCell ⟨w.heap.size,10,none⟩ (.int .i64 0)).setCell ⟨w.heap.size,11,none⟩ (.string ⟨#[]⟩)).setCell ⟨w.heap.size,12,none⟩ (.string ⟨#[]⟩)).setCell ⟨w.heap.size,13,none⟩ (.string ⟨#[]⟩)).setCell ⟨w.heap.size,14,none⟩ (.slice none 0 0):=⟨_,rfl⟩
 rw[←hX]
 have hb:Blk X w.heap.size #[.string ⟨#[]⟩,.bool false,.int .i64 0,.string ⟨#[]⟩,.string ⟨#[]⟩,.string ⟨#[]⟩,.int .i64 0,.string ⟨#[]⟩,.string ⟨#[]⟩,.string ⟨#[]⟩,.int .i64 0,.string ⟨#[]⟩,.string ⟨#[]⟩,.string ⟨#[]⟩,.slice none 0 0] 28:=by rw[hX];exact cells15 HK1.out (.string ⟨#[]⟩) (.bool false) (.int .i64 0) (.string ⟨#[]⟩) (.string ⟨#[]⟩) (.string ⟨#[]⟩) (.int .i64 0) (.string ⟨#[]⟩) (.string ⟨#[]⟩) (.string ⟨#[]⟩) (.int .i64 0) (.string ⟨#[]⟩) (.string ⟨#[]⟩) (.string ⟨#[]⟩) (.slice none 0 0)
 have HKX:Hid (Keep (fun x=>x=w.heap.size) w1 X):=by rw[hX];exact keep15 _ _ _ _ _ _ _ _ _ _ _ _ _ _ _ _ _
 clear hX
 have z0:=hb.cell 0
 have z1:=hb.cell 1
 have z2:=hb.cell 2
 have z3:=hb.cell 3
 have z4:=hb.cell 4
 have z5:=hb.cell 5
 have z6:=hb.cell 6
 have z7:=hb.cell 7
 have z8:=hb.cell 8
 have z9:=hb.cell 9
 have z10:=hb.cell 10
 have z11:=hb.cell 11
 have z12:=hb.cell 12
 have z13:=hb.cell 13
 have z14:=hb.cell 14
 simp only[List.getElem?_toArray,List.getElem?_cons_zero,List.getElem?_cons_succ]at z0 z1 z2 z3 z4 z5 z6 z7 z8 z9 z10 z11 z12 z13 z14
 refine bodyPost_ret (v:=.tuple #[.agg #[.string ⟨#[]⟩,.bool false,.int .i64 0,.string ⟨#[]⟩,.string ⟨#[]⟩,.string ⟨#[]⟩,.int .i64 0,.string ⟨#[]⟩,.string ⟨#[]⟩,.string ⟨#[]⟩,.int .i64 0,.string ⟨#[]⟩,.string ⟨#[]⟩,.string ⟨#[]⟩,.slice none 0 0],.iface 41 (.int .i64 1)]) (by simp[results,Tryz.results5,go_sem,z0,z1,z2,z3,z4,z5,z6,z7,z8,z9,z10,z11,z12,z13,z14]) rfl ⟨?_,?_⟩
 · rw[HRP.out];rfl
 · exact HB1.out.trans (HKX.out.below HB1.out.size (fun a e=>by have h2:a=w.heap.size:=e;omega))
theorem pread_we (s:ByteArray)(w:World)(hs:s.size≤maxLen)(hT:Tab w)(hE:ErrIn w)(ts:List Tk)(hR:readL s.data.toList= .ok ts)(n:Int)(hw:writeL (poR ts)= .error n):
 Calls Tryz.prog 5 #[.string s] w fun en w'=>RdRet (readPL s.data.toList) en w'∧Below w.heap.size w w':=by
 obtain⟨V,hV⟩:∃V,V=w.alloc (.cells #[.string ⟨#[]⟩,.bool false,.int .i64 0,.string ⟨#[]⟩,.string ⟨#[]⟩,.string ⟨#[]⟩,.int .i64 0,.string ⟨#[]⟩,.string ⟨#[]⟩,.string ⟨#[]⟩,.int .i64 0,.string ⟨#[]⟩,.string ⟨#[]⟩,.string ⟨#[]⟩,.slice none 0 0] 28):=⟨_,rfl⟩
 have hbV:Below w.heap.size w V:=by rw[hV];exact kqx
 have HK0:Hid (Blk V w.heap.size #[.string ⟨#[]⟩,.bool false,.int .i64 0,.string ⟨#[]⟩,.string ⟨#[]⟩,.string ⟨#[]⟩,.int .i64 0,.string ⟨#[]⟩,.string ⟨#[]⟩,.string ⟨#[]⟩,.int .i64 0,.string ⟨#[]⟩,.string ⟨#[]⟩,.string ⟨#[]⟩,.slice none 0 0] 28):=by rw[hV];exact Blk.new w _ _ rfl
 have HR:=read_any s V hs
 have HTb:Hid (Tab w):=hT
 have HEr:Hid (ErrIn w):=hE
 have HRL:Hid (∀ts,readL s.data.toList= .ok ts→readPL s.data.toList=rdOf (writeL (poR ts)) s.data.toList (poR ts)):=fun ts e=>readPL_ok e
 have HRE:Hid (∀x,readL s.data.toList= .error x→readPL s.data.toList= .error 1):=fun x e=>by unfold readPL;rw[e]
 clear hs hT hE
 have HRP:=HRL.out ts hR
 have HSM:Hid (Sm ts):=read_small hR
 have HLN:Hid (ts.length≤300):=read_many hR
 rw[hR]at HR
 clear HRL HRE hR
 unfold ReadPost at HR
 simp only at HR
 obtain⟨P,hP⟩:∃P,P=poR ts:=⟨_,rfl⟩
 obtain⟨WL,hWL⟩:∃W,W=writeL (poR ts):=⟨_,rfl⟩
 rw[←hWL]at hw
 rw[←hWL,←hP]at HRP
 have HRQ:Hid (readPL s.data.toList=rdOf WL s.data.toList P):=HRP
 have HPP:Hid (P=poR ts∧WL=writeL P):=⟨hP,by rw[hWL,hP]⟩
 clear HRP hP hWL
 go_enter Tryz.func5,Tryz.ntmps5
 go_wp2_with fail
 rw[←hV]
 clear hV
 refine HR.mono ?_
 rintro _ w1 ⟨⟨q,c,rfl,ht1,hc1,hc2,_⟩,hb1⟩
 have HK1:Hid (Blk w1 w.heap.size #[.string ⟨#[]⟩,.bool false,.int .i64 0,.string ⟨#[]⟩,.string ⟨#[]⟩,.string ⟨#[]⟩,.int .i64 0,.string ⟨#[]⟩,.string ⟨#[]⟩,.string ⟨#[]⟩,.int .i64 0,.string ⟨#[]⟩,.string ⟨#[]⟩,.string ⟨#[]⟩,.slice none 0 0] 28):=HK0.out.up hb1
 have HB1:Hid (Below w.heap.size w w1):=kqt hbV hb1
 have hlt1:w.heap.size<w1.heap.size:=HK1.out.lt
 obtain⟨R,hRB⟩:∃R,R=w1.heap.size:=⟨_,rfl⟩
 obtain⟨V3,hV3⟩:∃V3,V3=w1.alloc (.cells #[.slice q ts.length c,.int .i64 0] 53):=⟨_,rfl⟩
 have b13:Below w1.heap.size w1 V3:=by rw[hV3];exact kqx
 have HD:Rs R ts V3 V3:=⟨⟨q,c,ts,0,⟨by rw[hV3,hRB];exact heap_alloc_new _ _,ht1.up b13,fun hne a ha=>by
  obtain⟨bb,oo,e1,e2⟩:=ht1.addr hne
  rw[e1]at ha;cases ha;show bb<R;omega,Nat.zero_le _,by have:=HLN.out;omega⟩,rfl⟩,Keep.refl _ _⟩
 have HK3:Hid (Blk V3 w.heap.size #[.string ⟨#[]⟩,.bool false,.int .i64 0,.string ⟨#[]⟩,.string ⟨#[]⟩,.string ⟨#[]⟩,.int .i64 0,.string ⟨#[]⟩,.string ⟨#[]⟩,.string ⟨#[]⟩,.int .i64 0,.string ⟨#[]⟩,.string ⟨#[]⟩,.string ⟨#[]⟩,.slice none 0 0] 28):=HK1.out.up b13
 have HB3:Hid (Below w.heap.size w V3):=kqt HB1.out b13
 have hRw:w.heap.size<R:=by omega
 have HEK:EK R V3:=fun w' k=>errIn_keep HEr.out HB3.out (Nat.le_of_lt hRw) k
 have HPC:=HD.policy HEK (fun t ht=>by have:=HSM.out t ht;omega)
 rw[←HPP.out.1]at HPC
 have hwR:¬w.heap.size=R:=by omega
 clear HR HK0 HK1 HB1 hb1 ht1 hc1 hc2 HD HEK b13
 go_wp2_with fail
 rw[←hV3,←hRB]
 clear hV3 hRB hlt1
 refine HPC.mono ?_
 rintro _ w4 ⟨⟨q5,c5,rfl,hcd,hle,hcm⟩,h4⟩
 have k4:=h4.2
 have HK4:Hid (Blk w4 w.heap.size #[.string ⟨#[]⟩,.bool false,.int .i64 0,.string ⟨#[]⟩,.string ⟨#[]⟩,.string ⟨#[]⟩,.int .i64 0,.string ⟨#[]⟩,.string ⟨#[]⟩,.string ⟨#[]⟩,.int .i64 0,.string ⟨#[]⟩,.string ⟨#[]⟩,.string ⟨#[]⟩,.slice none 0 0] 28):=HK3.out.keep k4 hwR
 have HB4:Hid (Below w.heap.size w w4):=HB3.out.trans (k4.below HB3.out.size (fun a e=>by have h2:a=R:=e;omega))
 have HT4:Hid (Tab w4):=tab_keep HTb.out HB3.out (Nat.le_of_lt hRw) k4
 have HPO:Hid (PoA w4 P q5 c5):=by
  have hcd2:=hcd.cdl
  rw[HPP.out.1]at hcd2 hle ⊢
  exact poR_ok HSM.out hcd2 hle hcm
 have HCT:Hid (CdLT w4 q5 P.cs):=hcd
 have HN6:Hid (∀d∈P.cs,∀x∈d.ex,n64 x):=by show ∀d∈P.cs,_;rw[HPP.out.1];exact poR_n64 ts
 obtain⟨V5,hV5⟩:∃V5,V5=w4.alloc (.cells (poC P q5 c5) 28):=⟨_,rfl⟩
 obtain⟨T,hTT⟩:∃T,T=w4.heap.size:=⟨_,rfl⟩
 have b45:Below w4.heap.size w4 V5:=by rw[hV5];exact kqx
 have HK5:Hid (Blk V5 w.heap.size #[.string ⟨#[]⟩,.bool false,.int .i64 0,.string ⟨#[]⟩,.string ⟨#[]⟩,.string ⟨#[]⟩,.int .i64 0,.string ⟨#[]⟩,.string ⟨#[]⟩,.string ⟨#[]⟩,.int .i64 0,.string ⟨#[]⟩,.string ⟨#[]⟩,.string ⟨#[]⟩,.slice none 0 0] 28):=HK4.out.up b45
 have HT5:Hid (Blk V5 T (poC P q5 c5) 28):=by rw[hV5,hTT];exact Blk.new w4 _ _ rfl
 have HB5:Hid (Below w.heap.size w V5):=kqt HB4.out b45
 have HWR:=pwrite_any P q5 c5 V5 (HPO.out.up b45) (HT4.out.up b45) HN6.out
 have HPO5:Hid (PoA V5 P q5 c5):=HPO.out.up b45
 have HCT5:Hid (CdLT V5 q5 P.cs):=HCT.out.up b45
 rw[←HPP.out.2]at HWR
 have y:=po_cells HT5.out
 obtain⟨y0,y1,y2,y3,y4,y5,y6,y7,y8,y9,y10,y11,y12,y13,y14⟩:=y
 have hwT:w.heap.size<T:=by have:=HK4.out.lt;omega
 unfold poC at hV5
 unfold poV at *
 clear hcd hle hcm h4 k4 b45 HPC HK3 HB3 HT4 HPO
 go_wp2_with fail
 rw[←hV5,←hTT]
 clear hV5 hTT
 subst hw
 simp only[spellV]at HWR
 refine HWR.mono ?_
 rintro _ w6 ⟨rfl,b56⟩
 have HK6:Hid (Blk w6 w.heap.size #[.string ⟨#[]⟩,.bool false,.int .i64 0,.string ⟨#[]⟩,.string ⟨#[]⟩,.string ⟨#[]⟩,.int .i64 0,.string ⟨#[]⟩,.string ⟨#[]⟩,.string ⟨#[]⟩,.int .i64 0,.string ⟨#[]⟩,.string ⟨#[]⟩,.string ⟨#[]⟩,.slice none 0 0] 28):=HK5.out.up b56
 have HB6:Hid (Below w.heap.size w w6):=kqt HB5.out b56
 clear b56 y0 y1 y2 y3 y4 y5 y6 y7 y8 y9 y10 y11 y12 y13 y14
 have x0:w6.cell? ⟨w.heap.size,0,none⟩=some (.string ⟨#[]⟩):=HK6.out.cell 0
 have fx0:=HK6.out.free 0
 have x1:w6.cell? ⟨w.heap.size,1,none⟩=some (.bool false):=HK6.out.cell 1
 have fx1:=HK6.out.free 1
 have x2:w6.cell? ⟨w.heap.size,2,none⟩=some (.int .i64 0):=HK6.out.cell 2
 have fx2:=HK6.out.free 2
 have x3:w6.cell? ⟨w.heap.size,3,none⟩=some (.string ⟨#[]⟩):=HK6.out.cell 3
 have fx3:=HK6.out.free 3
 have x4:w6.cell? ⟨w.heap.size,4,none⟩=some (.string ⟨#[]⟩):=HK6.out.cell 4
 have fx4:=HK6.out.free 4
 have x5:w6.cell? ⟨w.heap.size,5,none⟩=some (.string ⟨#[]⟩):=HK6.out.cell 5
 have fx5:=HK6.out.free 5
 have x6:w6.cell? ⟨w.heap.size,6,none⟩=some (.int .i64 0):=HK6.out.cell 6
 have fx6:=HK6.out.free 6
 have x7:w6.cell? ⟨w.heap.size,7,none⟩=some (.string ⟨#[]⟩):=HK6.out.cell 7
 have fx7:=HK6.out.free 7
 have x8:w6.cell? ⟨w.heap.size,8,none⟩=some (.string ⟨#[]⟩):=HK6.out.cell 8
 have fx8:=HK6.out.free 8
 have x9:w6.cell? ⟨w.heap.size,9,none⟩=some (.string ⟨#[]⟩):=HK6.out.cell 9
 have fx9:=HK6.out.free 9
 have x10:w6.cell? ⟨w.heap.size,10,none⟩=some (.int .i64 0):=HK6.out.cell 10
 have fx10:=HK6.out.free 10
 have x11:w6.cell? ⟨w.heap.size,11,none⟩=some (.string ⟨#[]⟩):=HK6.out.cell 11
 have fx11:=HK6.out.free 11
 have x12:w6.cell? ⟨w.heap.size,12,none⟩=some (.string ⟨#[]⟩):=HK6.out.cell 12
 have fx12:=HK6.out.free 12
 have x13:w6.cell? ⟨w.heap.size,13,none⟩=some (.string ⟨#[]⟩):=HK6.out.cell 13
 have fx13:=HK6.out.free 13
 have x14:w6.cell? ⟨w.heap.size,14,none⟩=some (.slice none 0 0):=HK6.out.cell 14
 have fx14:=HK6.out.free 14
 go_wp2
 obtain⟨X,hX⟩:∃X,X=(((((((((((((((w6).setCell ⟨w.heap.size,0,none⟩ (.string ⟨#[]⟩)).setCell ⟨w.heap.size,1,none⟩ (.bool false)).setCell ⟨w.heap.size,2,none⟩ (.int .i64 0)).setCell ⟨w.heap.size,3,none⟩ (.string ⟨#[]⟩)).setCell ⟨w.heap.size,4,none⟩ (.string ⟨#[]⟩)).setCell ⟨w.heap.size,5,none⟩ (.string ⟨#[]⟩)).setCell ⟨w.heap.size,6,none⟩ (.int .i64 0)).setCell ⟨w.heap.size,7,none⟩ (.string ⟨#[]⟩)).setCell ⟨w.heap.size,8,none⟩ (.string ⟨#[]⟩)).setCell ⟨w.heap.size,9,none⟩ (.string ⟨#[]⟩)).setCell ⟨w.heap.size,10,none⟩ (.int .i64 0)).setCell ⟨w.heap.size,11,none⟩ (.string ⟨#[]⟩)).setCell ⟨w.heap.size,12,none⟩ (.string ⟨#[]⟩)).setCell ⟨w.heap.size,13,none⟩ (.string ⟨#[]⟩)).setCell ⟨w.heap.size,14,none⟩ (.slice none 0 0):=⟨_,rfl⟩
 rw[←hX]
 have hb:Blk X w.heap.size #[.string ⟨#[]⟩,.bool false,.int .i64 0,.string ⟨#[]⟩,.string ⟨#[]⟩,.string ⟨#[]⟩,.int .i64 0,.string ⟨#[]⟩,.string ⟨#[]⟩,.string ⟨#[]⟩,.int .i64 0,.string ⟨#[]⟩,.string ⟨#[]⟩,.string ⟨#[]⟩,.slice none 0 0] 28:=by rw[hX];exact cells15 HK6.out (.string ⟨#[]⟩) (.bool false) (.int .i64 0) (.string ⟨#[]⟩) (.string ⟨#[]⟩) (.string ⟨#[]⟩) (.int .i64 0) (.string ⟨#[]⟩) (.string ⟨#[]⟩) (.string ⟨#[]⟩) (.int .i64 0) (.string ⟨#[]⟩) (.string ⟨#[]⟩) (.string ⟨#[]⟩) (.slice none 0 0)
 have HKX:Hid (Keep (fun x=>x=w.heap.size) w6 X):=by rw[hX];exact keep15 _ _ _ _ _ _ _ _ _ _ _ _ _ _ _ _ _
 clear hX
 have z0:=hb.cell 0
 have z1:=hb.cell 1
 have z2:=hb.cell 2
 have z3:=hb.cell 3
 have z4:=hb.cell 4
 have z5:=hb.cell 5
 have z6:=hb.cell 6
 have z7:=hb.cell 7
 have z8:=hb.cell 8
 have z9:=hb.cell 9
 have z10:=hb.cell 10
 have z11:=hb.cell 11
 have z12:=hb.cell 12
 have z13:=hb.cell 13
 have z14:=hb.cell 14
 simp only[List.getElem?_toArray,List.getElem?_cons_zero,List.getElem?_cons_succ]at z0 z1 z2 z3 z4 z5 z6 z7 z8 z9 z10 z11 z12 z13 z14
 refine bodyPost_ret (v:=.tuple #[.agg #[.string ⟨#[]⟩,.bool false,.int .i64 0,.string ⟨#[]⟩,.string ⟨#[]⟩,.string ⟨#[]⟩,.int .i64 0,.string ⟨#[]⟩,.string ⟨#[]⟩,.string ⟨#[]⟩,.int .i64 0,.string ⟨#[]⟩,.string ⟨#[]⟩,.string ⟨#[]⟩,.slice none 0 0],.iface 41 (.int .i64 1)]) (by simp[results,Tryz.results5,go_sem,z0,z1,z2,z3,z4,z5,z6,z7,z8,z9,z10,z11,z12,z13,z14]) rfl ⟨?_,?_⟩
 · rw[HRQ.out];rfl
 · exact HB6.out.trans (HKX.out.below HB6.out.size (fun a e=>by have h2:a=w.heap.size:=e;omega))
theorem pread_yes (s:ByteArray)(w:World)(hs:s.size≤maxLen)(hT:Tab w)(hE:ErrIn w)(ts:List Tk)(hR:readL s.data.toList= .ok ts)(m:List UInt8)(hw:writeL (poR ts)= .ok m)(hm:m=s.data.toList):
 Calls Tryz.prog 5 #[.string s] w fun en w'=>RdRet (readPL s.data.toList) en w'∧Below w.heap.size w w':=by
 obtain⟨V,hV⟩:∃V,V=w.alloc (.cells #[.string ⟨#[]⟩,.bool false,.int .i64 0,.string ⟨#[]⟩,.string ⟨#[]⟩,.string ⟨#[]⟩,.int .i64 0,.string ⟨#[]⟩,.string ⟨#[]⟩,.string ⟨#[]⟩,.int .i64 0,.string ⟨#[]⟩,.string ⟨#[]⟩,.string ⟨#[]⟩,.slice none 0 0] 28):=⟨_,rfl⟩
 have hbV:Below w.heap.size w V:=by rw[hV];exact kqx
 have HK0:Hid (Blk V w.heap.size #[.string ⟨#[]⟩,.bool false,.int .i64 0,.string ⟨#[]⟩,.string ⟨#[]⟩,.string ⟨#[]⟩,.int .i64 0,.string ⟨#[]⟩,.string ⟨#[]⟩,.string ⟨#[]⟩,.int .i64 0,.string ⟨#[]⟩,.string ⟨#[]⟩,.string ⟨#[]⟩,.slice none 0 0] 28):=by rw[hV];exact Blk.new w _ _ rfl
 have HR:=read_any s V hs
 have HTb:Hid (Tab w):=hT
 have HEr:Hid (ErrIn w):=hE
 have HRL:Hid (∀ts,readL s.data.toList= .ok ts→readPL s.data.toList=rdOf (writeL (poR ts)) s.data.toList (poR ts)):=fun ts e=>readPL_ok e
 have HRE:Hid (∀x,readL s.data.toList= .error x→readPL s.data.toList= .error 1):=fun x e=>by unfold readPL;rw[e]
 clear hs hT hE
 have HRP:=HRL.out ts hR
 have HSM:Hid (Sm ts):=read_small hR
 have HLN:Hid (ts.length≤300):=read_many hR
 rw[hR]at HR
 clear HRL HRE hR
 unfold ReadPost at HR
 simp only at HR
 obtain⟨P,hP⟩:∃P,P=poR ts:=⟨_,rfl⟩
 obtain⟨WL,hWL⟩:∃W,W=writeL (poR ts):=⟨_,rfl⟩
 rw[←hWL]at hw
 rw[←hWL,←hP]at HRP
 have HRQ:Hid (readPL s.data.toList=rdOf WL s.data.toList P):=HRP
 have HPP:Hid (P=poR ts∧WL=writeL P):=⟨hP,by rw[hWL,hP]⟩
 clear HRP hP hWL
 go_enter Tryz.func5,Tryz.ntmps5
 go_wp2_with fail
 rw[←hV]
 clear hV
 refine HR.mono ?_
 rintro _ w1 ⟨⟨q,c,rfl,ht1,hc1,hc2,_⟩,hb1⟩
 have HK1:Hid (Blk w1 w.heap.size #[.string ⟨#[]⟩,.bool false,.int .i64 0,.string ⟨#[]⟩,.string ⟨#[]⟩,.string ⟨#[]⟩,.int .i64 0,.string ⟨#[]⟩,.string ⟨#[]⟩,.string ⟨#[]⟩,.int .i64 0,.string ⟨#[]⟩,.string ⟨#[]⟩,.string ⟨#[]⟩,.slice none 0 0] 28):=HK0.out.up hb1
 have HB1:Hid (Below w.heap.size w w1):=kqt hbV hb1
 have hlt1:w.heap.size<w1.heap.size:=HK1.out.lt
 obtain⟨R,hRB⟩:∃R,R=w1.heap.size:=⟨_,rfl⟩
 obtain⟨V3,hV3⟩:∃V3,V3=w1.alloc (.cells #[.slice q ts.length c,.int .i64 0] 53):=⟨_,rfl⟩
 have b13:Below w1.heap.size w1 V3:=by rw[hV3];exact kqx
 have HD:Rs R ts V3 V3:=⟨⟨q,c,ts,0,⟨by rw[hV3,hRB];exact heap_alloc_new _ _,ht1.up b13,fun hne a ha=>by
  obtain⟨bb,oo,e1,e2⟩:=ht1.addr hne
  rw[e1]at ha;cases ha;show bb<R;omega,Nat.zero_le _,by have:=HLN.out;omega⟩,rfl⟩,Keep.refl _ _⟩
 have HK3:Hid (Blk V3 w.heap.size #[.string ⟨#[]⟩,.bool false,.int .i64 0,.string ⟨#[]⟩,.string ⟨#[]⟩,.string ⟨#[]⟩,.int .i64 0,.string ⟨#[]⟩,.string ⟨#[]⟩,.string ⟨#[]⟩,.int .i64 0,.string ⟨#[]⟩,.string ⟨#[]⟩,.string ⟨#[]⟩,.slice none 0 0] 28):=HK1.out.up b13
 have HB3:Hid (Below w.heap.size w V3):=kqt HB1.out b13
 have hRw:w.heap.size<R:=by omega
 have HEK:EK R V3:=fun w' k=>errIn_keep HEr.out HB3.out (Nat.le_of_lt hRw) k
 have HPC:=HD.policy HEK (fun t ht=>by have:=HSM.out t ht;omega)
 rw[←HPP.out.1]at HPC
 have hwR:¬w.heap.size=R:=by omega
 clear HR HK0 HK1 HB1 hb1 ht1 hc1 hc2 HD HEK b13
 go_wp2_with fail
 rw[←hV3,←hRB]
 clear hV3 hRB hlt1
 refine HPC.mono ?_
 rintro _ w4 ⟨⟨q5,c5,rfl,hcd,hle,hcm⟩,h4⟩
 have k4:=h4.2
 have HK4:Hid (Blk w4 w.heap.size #[.string ⟨#[]⟩,.bool false,.int .i64 0,.string ⟨#[]⟩,.string ⟨#[]⟩,.string ⟨#[]⟩,.int .i64 0,.string ⟨#[]⟩,.string ⟨#[]⟩,.string ⟨#[]⟩,.int .i64 0,.string ⟨#[]⟩,.string ⟨#[]⟩,.string ⟨#[]⟩,.slice none 0 0] 28):=HK3.out.keep k4 hwR
 have HB4:Hid (Below w.heap.size w w4):=HB3.out.trans (k4.below HB3.out.size (fun a e=>by have h2:a=R:=e;omega))
 have HT4:Hid (Tab w4):=tab_keep HTb.out HB3.out (Nat.le_of_lt hRw) k4
 have HPO:Hid (PoA w4 P q5 c5):=by
  have hcd2:=hcd.cdl
  rw[HPP.out.1]at hcd2 hle ⊢
  exact poR_ok HSM.out hcd2 hle hcm
 have HCT:Hid (CdLT w4 q5 P.cs):=hcd
 have HN6:Hid (∀d∈P.cs,∀x∈d.ex,n64 x):=by show ∀d∈P.cs,_;rw[HPP.out.1];exact poR_n64 ts
 obtain⟨V5,hV5⟩:∃V5,V5=w4.alloc (.cells (poC P q5 c5) 28):=⟨_,rfl⟩
 obtain⟨T,hTT⟩:∃T,T=w4.heap.size:=⟨_,rfl⟩
 have b45:Below w4.heap.size w4 V5:=by rw[hV5];exact kqx
 have HK5:Hid (Blk V5 w.heap.size #[.string ⟨#[]⟩,.bool false,.int .i64 0,.string ⟨#[]⟩,.string ⟨#[]⟩,.string ⟨#[]⟩,.int .i64 0,.string ⟨#[]⟩,.string ⟨#[]⟩,.string ⟨#[]⟩,.int .i64 0,.string ⟨#[]⟩,.string ⟨#[]⟩,.string ⟨#[]⟩,.slice none 0 0] 28):=HK4.out.up b45
 have HT5:Hid (Blk V5 T (poC P q5 c5) 28):=by rw[hV5,hTT];exact Blk.new w4 _ _ rfl
 have HB5:Hid (Below w.heap.size w V5):=kqt HB4.out b45
 have HWR:=pwrite_any P q5 c5 V5 (HPO.out.up b45) (HT4.out.up b45) HN6.out
 have HPO5:Hid (PoA V5 P q5 c5):=HPO.out.up b45
 have HCT5:Hid (CdLT V5 q5 P.cs):=HCT.out.up b45
 rw[←HPP.out.2]at HWR
 have y:=po_cells HT5.out
 obtain⟨y0,y1,y2,y3,y4,y5,y6,y7,y8,y9,y10,y11,y12,y13,y14⟩:=y
 have hwT:w.heap.size<T:=by have:=HK4.out.lt;omega
 unfold poC at hV5
 unfold poV at *
 clear hcd hle hcm h4 k4 b45 HPC HK3 HB3 HT4 HPO
 go_wp2_with fail
 rw[←hV5,←hTT]
 clear hV5 hTT
 subst hw
 simp only[spellV]at HWR
 refine HWR.mono ?_
 rintro _ w6 ⟨rfl,b56⟩
 have HK6:Hid (Blk w6 w.heap.size #[.string ⟨#[]⟩,.bool false,.int .i64 0,.string ⟨#[]⟩,.string ⟨#[]⟩,.string ⟨#[]⟩,.int .i64 0,.string ⟨#[]⟩,.string ⟨#[]⟩,.string ⟨#[]⟩,.int .i64 0,.string ⟨#[]⟩,.string ⟨#[]⟩,.string ⟨#[]⟩,.slice none 0 0] 28):=HK5.out.up b56
 have HT6:Hid (Blk w6 T (poC P q5 c5) 28):=HT5.out.up b56
 have HB6:Hid (Below w.heap.size w w6):=kqt HB5.out b56
 have HPO6:Hid (PoA w6 P q5 c5):=HPO5.out.up b56
 have HCT6:Hid (CdLT w6 q5 P.cs):=HCT5.out.up b56
 clear b56 y0 y1 y2 y3 y4 y5 y6 y7 y8 y9 y10 y11 y12 y13 y14
 have HM:Hid (m=s.data.toList):=hm
 have em:((⟨m.toArray⟩:ByteArray).toList == s.toList)=true:=by rw[hm];simp[ByteArray.toList_eq]
 have em2:(m == s.toList)=true:=by rw[hm];simp[ByteArray.toList_eq]
 clear hm
 obtain⟨y0,y1,y2,y3,y4,y5,y6,y7,y8,y9,y10,y11,y12,y13,y14⟩:=po_cells HT6.out
 have x0:w6.cell? ⟨w.heap.size,0,none⟩=some (.string ⟨#[]⟩):=HK6.out.cell 0
 have fx0:=HK6.out.free 0
 have x1:w6.cell? ⟨w.heap.size,1,none⟩=some (.bool false):=HK6.out.cell 1
 have fx1:=HK6.out.free 1
 have x2:w6.cell? ⟨w.heap.size,2,none⟩=some (.int .i64 0):=HK6.out.cell 2
 have fx2:=HK6.out.free 2
 have x3:w6.cell? ⟨w.heap.size,3,none⟩=some (.string ⟨#[]⟩):=HK6.out.cell 3
 have fx3:=HK6.out.free 3
 have x4:w6.cell? ⟨w.heap.size,4,none⟩=some (.string ⟨#[]⟩):=HK6.out.cell 4
 have fx4:=HK6.out.free 4
 have x5:w6.cell? ⟨w.heap.size,5,none⟩=some (.string ⟨#[]⟩):=HK6.out.cell 5
 have fx5:=HK6.out.free 5
 have x6:w6.cell? ⟨w.heap.size,6,none⟩=some (.int .i64 0):=HK6.out.cell 6
 have fx6:=HK6.out.free 6
 have x7:w6.cell? ⟨w.heap.size,7,none⟩=some (.string ⟨#[]⟩):=HK6.out.cell 7
 have fx7:=HK6.out.free 7
 have x8:w6.cell? ⟨w.heap.size,8,none⟩=some (.string ⟨#[]⟩):=HK6.out.cell 8
 have fx8:=HK6.out.free 8
 have x9:w6.cell? ⟨w.heap.size,9,none⟩=some (.string ⟨#[]⟩):=HK6.out.cell 9
 have fx9:=HK6.out.free 9
 have x10:w6.cell? ⟨w.heap.size,10,none⟩=some (.int .i64 0):=HK6.out.cell 10
 have fx10:=HK6.out.free 10
 have x11:w6.cell? ⟨w.heap.size,11,none⟩=some (.string ⟨#[]⟩):=HK6.out.cell 11
 have fx11:=HK6.out.free 11
 have x12:w6.cell? ⟨w.heap.size,12,none⟩=some (.string ⟨#[]⟩):=HK6.out.cell 12
 have fx12:=HK6.out.free 12
 have x13:w6.cell? ⟨w.heap.size,13,none⟩=some (.string ⟨#[]⟩):=HK6.out.cell 13
 have fx13:=HK6.out.free 13
 have x14:w6.cell? ⟨w.heap.size,14,none⟩=some (.slice none 0 0):=HK6.out.cell 14
 have fx14:=HK6.out.free 14
 go_wp2
 obtain⟨X,hX⟩:∃X,X=(((((((((((((((w6).setCell ⟨w.heap.size,0,none⟩ (.string P.nm)).setCell ⟨w.heap.size,1,none⟩ (.bool P.fb)).setCell ⟨w.heap.size,2,none⟩ (.int .i64 P.who.op)).setCell ⟨w.heap.size,3,none⟩ (.string P.who.ty)).setCell ⟨w.heap.size,4,none⟩ (.string P.who.u.t)).setCell ⟨w.heap.size,5,none⟩ (.string P.who.u.i)).setCell ⟨w.heap.size,6,none⟩ (.int .i64 P.act.op)).setCell ⟨w.heap.size,7,none⟩ (.string P.act.ty)).setCell ⟨w.heap.size,8,none⟩ (.string P.act.u.t)).setCell ⟨w.heap.size,9,none⟩ (.string P.act.u.i)).setCell ⟨w.heap.size,10,none⟩ (.int .i64 P.what.op)).setCell ⟨w.heap.size,11,none⟩ (.string P.what.ty)).setCell ⟨w.heap.size,12,none⟩ (.string P.what.u.t)).setCell ⟨w.heap.size,13,none⟩ (.string P.what.u.i)).setCell ⟨w.heap.size,14,none⟩ (.slice q5 P.cs.length c5):=⟨_,rfl⟩
 rw[←hX]
 have hb:Blk X w.heap.size #[.string P.nm,.bool P.fb,.int .i64 P.who.op,.string P.who.ty,.string P.who.u.t,.string P.who.u.i,.int .i64 P.act.op,.string P.act.ty,.string P.act.u.t,.string P.act.u.i,.int .i64 P.what.op,.string P.what.ty,.string P.what.u.t,.string P.what.u.i,.slice q5 P.cs.length c5] 28:=by rw[hX];exact cells15 HK6.out (.string P.nm) (.bool P.fb) (.int .i64 P.who.op) (.string P.who.ty) (.string P.who.u.t) (.string P.who.u.i) (.int .i64 P.act.op) (.string P.act.ty) (.string P.act.u.t) (.string P.act.u.i) (.int .i64 P.what.op) (.string P.what.ty) (.string P.what.u.t) (.string P.what.u.i) (.slice q5 P.cs.length c5)
 have HKX:Hid (Keep (fun x=>x=w.heap.size) w6 X):=by rw[hX];exact keep15 _ _ _ _ _ _ _ _ _ _ _ _ _ _ _ _ _
 clear hX
 have z0:=hb.cell 0
 have z1:=hb.cell 1
 have z2:=hb.cell 2
 have z3:=hb.cell 3
 have z4:=hb.cell 4
 have z5:=hb.cell 5
 have z6:=hb.cell 6
 have z7:=hb.cell 7
 have z8:=hb.cell 8
 have z9:=hb.cell 9
 have z10:=hb.cell 10
 have z11:=hb.cell 11
 have z12:=hb.cell 12
 have z13:=hb.cell 13
 have z14:=hb.cell 14
 simp only[List.getElem?_toArray,List.getElem?_cons_zero,List.getElem?_cons_succ]at z0 z1 z2 z3 z4 z5 z6 z7 z8 z9 z10 z11 z12 z13 z14
 refine bodyPost_ret (v:=.tuple #[.agg #[.string P.nm,.bool P.fb,.int .i64 P.who.op,.string P.who.ty,.string P.who.u.t,.string P.who.u.i,.int .i64 P.act.op,.string P.act.ty,.string P.act.u.t,.string P.act.u.i,.int .i64 P.what.op,.string P.what.ty,.string P.what.u.t,.string P.what.u.i,.slice q5 P.cs.length c5],.nilIface]) (by simp[results,Tryz.results5,go_sem,z0,z1,z2,z3,z4,z5,z6,z7,z8,z9,z10,z11,z12,z13,z14]) rfl ⟨?_,?_⟩
 · rw[HRQ.out]
   unfold rdOf
   simp only[if_pos HM.out]
   refine⟨q5,c5,rfl,?_,HN6.out⟩
   obtain⟨a1,a2,a3,a4,a5,a6,a7⟩:=HPO6.out
   exact⟨a1,a2,a3,a4,(HCT6.out.keep HKX.out (fun g e ht=>by have h2:g=w.heap.size:=e;subst h2;exact ht.ne ⟨_,_,HK6.out.blk⟩ (by decide) rfl) (fun g e ht=>by have h2:g=w.heap.size:=e;subst h2;exact ht.ne ⟨_,_,HK6.out.blk⟩ (by decide) rfl)).cdl,a6,a7⟩
 · exact HB6.out.trans (HKX.out.below HB6.out.size (fun a e=>by have h2:a=w.heap.size:=e;omega))
theorem pread_no (s:ByteArray)(w:World)(hs:s.size≤maxLen)(hT:Tab w)(hE:ErrIn w)(ts:List Tk)(hR:readL s.data.toList= .ok ts)(m:List UInt8)(hw:writeL (poR ts)= .ok m)(hm:¬m=s.data.toList):
 Calls Tryz.prog 5 #[.string s] w fun en w'=>RdRet (readPL s.data.toList) en w'∧Below w.heap.size w w':=by
 obtain⟨V,hV⟩:∃V,V=w.alloc (.cells #[.string ⟨#[]⟩,.bool false,.int .i64 0,.string ⟨#[]⟩,.string ⟨#[]⟩,.string ⟨#[]⟩,.int .i64 0,.string ⟨#[]⟩,.string ⟨#[]⟩,.string ⟨#[]⟩,.int .i64 0,.string ⟨#[]⟩,.string ⟨#[]⟩,.string ⟨#[]⟩,.slice none 0 0] 28):=⟨_,rfl⟩
 have hbV:Below w.heap.size w V:=by rw[hV];exact kqx
 have HK0:Hid (Blk V w.heap.size #[.string ⟨#[]⟩,.bool false,.int .i64 0,.string ⟨#[]⟩,.string ⟨#[]⟩,.string ⟨#[]⟩,.int .i64 0,.string ⟨#[]⟩,.string ⟨#[]⟩,.string ⟨#[]⟩,.int .i64 0,.string ⟨#[]⟩,.string ⟨#[]⟩,.string ⟨#[]⟩,.slice none 0 0] 28):=by rw[hV];exact Blk.new w _ _ rfl
 have HR:=read_any s V hs
 have HTb:Hid (Tab w):=hT
 have HEr:Hid (ErrIn w):=hE
 have HRL:Hid (∀ts,readL s.data.toList= .ok ts→readPL s.data.toList=rdOf (writeL (poR ts)) s.data.toList (poR ts)):=fun ts e=>readPL_ok e
 have HRE:Hid (∀x,readL s.data.toList= .error x→readPL s.data.toList= .error 1):=fun x e=>by unfold readPL;rw[e]
 clear hs hT hE
 have HRP:=HRL.out ts hR
 have HSM:Hid (Sm ts):=read_small hR
 have HLN:Hid (ts.length≤300):=read_many hR
 rw[hR]at HR
 clear HRL HRE hR
 unfold ReadPost at HR
 simp only at HR
 obtain⟨P,hP⟩:∃P,P=poR ts:=⟨_,rfl⟩
 obtain⟨WL,hWL⟩:∃W,W=writeL (poR ts):=⟨_,rfl⟩
 rw[←hWL]at hw
 rw[←hWL,←hP]at HRP
 have HRQ:Hid (readPL s.data.toList=rdOf WL s.data.toList P):=HRP
 have HPP:Hid (P=poR ts∧WL=writeL P):=⟨hP,by rw[hWL,hP]⟩
 clear HRP hP hWL
 go_enter Tryz.func5,Tryz.ntmps5
 go_wp2_with fail
 rw[←hV]
 clear hV
 refine HR.mono ?_
 rintro _ w1 ⟨⟨q,c,rfl,ht1,hc1,hc2,_⟩,hb1⟩
 have HK1:Hid (Blk w1 w.heap.size #[.string ⟨#[]⟩,.bool false,.int .i64 0,.string ⟨#[]⟩,.string ⟨#[]⟩,.string ⟨#[]⟩,.int .i64 0,.string ⟨#[]⟩,.string ⟨#[]⟩,.string ⟨#[]⟩,.int .i64 0,.string ⟨#[]⟩,.string ⟨#[]⟩,.string ⟨#[]⟩,.slice none 0 0] 28):=HK0.out.up hb1
 have HB1:Hid (Below w.heap.size w w1):=kqt hbV hb1
 have hlt1:w.heap.size<w1.heap.size:=HK1.out.lt
 obtain⟨R,hRB⟩:∃R,R=w1.heap.size:=⟨_,rfl⟩
 obtain⟨V3,hV3⟩:∃V3,V3=w1.alloc (.cells #[.slice q ts.length c,.int .i64 0] 53):=⟨_,rfl⟩
 have b13:Below w1.heap.size w1 V3:=by rw[hV3];exact kqx
 have HD:Rs R ts V3 V3:=⟨⟨q,c,ts,0,⟨by rw[hV3,hRB];exact heap_alloc_new _ _,ht1.up b13,fun hne a ha=>by
  obtain⟨bb,oo,e1,e2⟩:=ht1.addr hne
  rw[e1]at ha;cases ha;show bb<R;omega,Nat.zero_le _,by have:=HLN.out;omega⟩,rfl⟩,Keep.refl _ _⟩
 have HK3:Hid (Blk V3 w.heap.size #[.string ⟨#[]⟩,.bool false,.int .i64 0,.string ⟨#[]⟩,.string ⟨#[]⟩,.string ⟨#[]⟩,.int .i64 0,.string ⟨#[]⟩,.string ⟨#[]⟩,.string ⟨#[]⟩,.int .i64 0,.string ⟨#[]⟩,.string ⟨#[]⟩,.string ⟨#[]⟩,.slice none 0 0] 28):=HK1.out.up b13
 have HB3:Hid (Below w.heap.size w V3):=kqt HB1.out b13
 have hRw:w.heap.size<R:=by omega
 have HEK:EK R V3:=fun w' k=>errIn_keep HEr.out HB3.out (Nat.le_of_lt hRw) k
 have HPC:=HD.policy HEK (fun t ht=>by have:=HSM.out t ht;omega)
 rw[←HPP.out.1]at HPC
 have hwR:¬w.heap.size=R:=by omega
 clear HR HK0 HK1 HB1 hb1 ht1 hc1 hc2 HD HEK b13
 go_wp2_with fail
 rw[←hV3,←hRB]
 clear hV3 hRB hlt1
 refine HPC.mono ?_
 rintro _ w4 ⟨⟨q5,c5,rfl,hcd,hle,hcm⟩,h4⟩
 have k4:=h4.2
 have HK4:Hid (Blk w4 w.heap.size #[.string ⟨#[]⟩,.bool false,.int .i64 0,.string ⟨#[]⟩,.string ⟨#[]⟩,.string ⟨#[]⟩,.int .i64 0,.string ⟨#[]⟩,.string ⟨#[]⟩,.string ⟨#[]⟩,.int .i64 0,.string ⟨#[]⟩,.string ⟨#[]⟩,.string ⟨#[]⟩,.slice none 0 0] 28):=HK3.out.keep k4 hwR
 have HB4:Hid (Below w.heap.size w w4):=HB3.out.trans (k4.below HB3.out.size (fun a e=>by have h2:a=R:=e;omega))
 have HT4:Hid (Tab w4):=tab_keep HTb.out HB3.out (Nat.le_of_lt hRw) k4
 have HPO:Hid (PoA w4 P q5 c5):=by
  have hcd2:=hcd.cdl
  rw[HPP.out.1]at hcd2 hle ⊢
  exact poR_ok HSM.out hcd2 hle hcm
 have HCT:Hid (CdLT w4 q5 P.cs):=hcd
 have HN6:Hid (∀d∈P.cs,∀x∈d.ex,n64 x):=by show ∀d∈P.cs,_;rw[HPP.out.1];exact poR_n64 ts
 obtain⟨V5,hV5⟩:∃V5,V5=w4.alloc (.cells (poC P q5 c5) 28):=⟨_,rfl⟩
 obtain⟨T,hTT⟩:∃T,T=w4.heap.size:=⟨_,rfl⟩
 have b45:Below w4.heap.size w4 V5:=by rw[hV5];exact kqx
 have HK5:Hid (Blk V5 w.heap.size #[.string ⟨#[]⟩,.bool false,.int .i64 0,.string ⟨#[]⟩,.string ⟨#[]⟩,.string ⟨#[]⟩,.int .i64 0,.string ⟨#[]⟩,.string ⟨#[]⟩,.string ⟨#[]⟩,.int .i64 0,.string ⟨#[]⟩,.string ⟨#[]⟩,.string ⟨#[]⟩,.slice none 0 0] 28):=HK4.out.up b45
 have HT5:Hid (Blk V5 T (poC P q5 c5) 28):=by rw[hV5,hTT];exact Blk.new w4 _ _ rfl
 have HB5:Hid (Below w.heap.size w V5):=kqt HB4.out b45
 have HWR:=pwrite_any P q5 c5 V5 (HPO.out.up b45) (HT4.out.up b45) HN6.out
 have HPO5:Hid (PoA V5 P q5 c5):=HPO.out.up b45
 have HCT5:Hid (CdLT V5 q5 P.cs):=HCT.out.up b45
 rw[←HPP.out.2]at HWR
 have y:=po_cells HT5.out
 obtain⟨y0,y1,y2,y3,y4,y5,y6,y7,y8,y9,y10,y11,y12,y13,y14⟩:=y
 have hwT:w.heap.size<T:=by have:=HK4.out.lt;omega
 unfold poC at hV5
 unfold poV at *
 clear hcd hle hcm h4 k4 b45 HPC HK3 HB3 HT4 HPO
 go_wp2_with fail
 rw[←hV5,←hTT]
 clear hV5 hTT
 subst hw
 simp only[spellV]at HWR
 refine HWR.mono ?_
 rintro _ w6 ⟨rfl,b56⟩
 have HK6:Hid (Blk w6 w.heap.size #[.string ⟨#[]⟩,.bool false,.int .i64 0,.string ⟨#[]⟩,.string ⟨#[]⟩,.string ⟨#[]⟩,.int .i64 0,.string ⟨#[]⟩,.string ⟨#[]⟩,.string ⟨#[]⟩,.int .i64 0,.string ⟨#[]⟩,.string ⟨#[]⟩,.string ⟨#[]⟩,.slice none 0 0] 28):=HK5.out.up b56
 have HT6:Hid (Blk w6 T (poC P q5 c5) 28):=HT5.out.up b56
 have HB6:Hid (Below w.heap.size w w6):=kqt HB5.out b56
 have HPO6:Hid (PoA w6 P q5 c5):=HPO5.out.up b56
 have HCT6:Hid (CdLT w6 q5 P.cs):=HCT5.out.up b56
 clear b56 y0 y1 y2 y3 y4 y5 y6 y7 y8 y9 y10 y11 y12 y13 y14
 have HM:Hid (¬m=s.data.toList):=hm
 have em:((⟨m.toArray⟩:ByteArray).toList == s.toList)=false:=by rw[beq_eq_false_iff_ne];intro e;apply hm;simpa[ByteArray.toList_eq]using e
 have em2:(m == s.toList)=false:=by rw[beq_eq_false_iff_ne];intro e;apply hm;simpa[ByteArray.toList_eq]using e
 clear hm
 have x0:w6.cell? ⟨w.heap.size,0,none⟩=some (.string ⟨#[]⟩):=HK6.out.cell 0
 have fx0:=HK6.out.free 0
 have x1:w6.cell? ⟨w.heap.size,1,none⟩=some (.bool false):=HK6.out.cell 1
 have fx1:=HK6.out.free 1
 have x2:w6.cell? ⟨w.heap.size,2,none⟩=some (.int .i64 0):=HK6.out.cell 2
 have fx2:=HK6.out.free 2
 have x3:w6.cell? ⟨w.heap.size,3,none⟩=some (.string ⟨#[]⟩):=HK6.out.cell 3
 have fx3:=HK6.out.free 3
 have x4:w6.cell? ⟨w.heap.size,4,none⟩=some (.string ⟨#[]⟩):=HK6.out.cell 4
 have fx4:=HK6.out.free 4
 have x5:w6.cell? ⟨w.heap.size,5,none⟩=some (.string ⟨#[]⟩):=HK6.out.cell 5
 have fx5:=HK6.out.free 5
 have x6:w6.cell? ⟨w.heap.size,6,none⟩=some (.int .i64 0):=HK6.out.cell 6
 have fx6:=HK6.out.free 6
 have x7:w6.cell? ⟨w.heap.size,7,none⟩=some (.string ⟨#[]⟩):=HK6.out.cell 7
 have fx7:=HK6.out.free 7
 have x8:w6.cell? ⟨w.heap.size,8,none⟩=some (.string ⟨#[]⟩):=HK6.out.cell 8
 have fx8:=HK6.out.free 8
 have x9:w6.cell? ⟨w.heap.size,9,none⟩=some (.string ⟨#[]⟩):=HK6.out.cell 9
 have fx9:=HK6.out.free 9
 have x10:w6.cell? ⟨w.heap.size,10,none⟩=some (.int .i64 0):=HK6.out.cell 10
 have fx10:=HK6.out.free 10
 have x11:w6.cell? ⟨w.heap.size,11,none⟩=some (.string ⟨#[]⟩):=HK6.out.cell 11
 have fx11:=HK6.out.free 11
 have x12:w6.cell? ⟨w.heap.size,12,none⟩=some (.string ⟨#[]⟩):=HK6.out.cell 12
 have fx12:=HK6.out.free 12
 have x13:w6.cell? ⟨w.heap.size,13,none⟩=some (.string ⟨#[]⟩):=HK6.out.cell 13
 have fx13:=HK6.out.free 13
 have x14:w6.cell? ⟨w.heap.size,14,none⟩=some (.slice none 0 0):=HK6.out.cell 14
 have fx14:=HK6.out.free 14
 go_wp2
 obtain⟨X,hX⟩:∃X,X=(((((((((((((((w6).setCell ⟨w.heap.size,0,none⟩ (.string ⟨#[]⟩)).setCell ⟨w.heap.size,1,none⟩ (.bool false)).setCell ⟨w.heap.size,2,none⟩ (.int .i64 0)).setCell ⟨w.heap.size,3,none⟩ (.string ⟨#[]⟩)).setCell ⟨w.heap.size,4,none⟩ (.string ⟨#[]⟩)).setCell ⟨w.heap.size,5,none⟩ (.string ⟨#[]⟩)).setCell ⟨w.heap.size,6,none⟩ (.int .i64 0)).setCell ⟨w.heap.size,7,none⟩ (.string ⟨#[]⟩)).setCell ⟨w.heap.size,8,none⟩ (.string ⟨#[]⟩)).setCell ⟨w.heap.size,9,none⟩ (.string ⟨#[]⟩)).setCell ⟨w.heap.size,10,none⟩ (.int .i64 0)).setCell ⟨w.heap.size,11,none⟩ (.string ⟨#[]⟩)).setCell ⟨w.heap.size,12,none⟩ (.string ⟨#[]⟩)).setCell ⟨w.heap.size,13,none⟩ (.string ⟨#[]⟩)).setCell ⟨w.heap.size,14,none⟩ (.slice none 0 0):=⟨_,rfl⟩
 rw[←hX]
 have hb:Blk X w.heap.size #[.string ⟨#[]⟩,.bool false,.int .i64 0,.string ⟨#[]⟩,.string ⟨#[]⟩,.string ⟨#[]⟩,.int .i64 0,.string ⟨#[]⟩,.string ⟨#[]⟩,.string ⟨#[]⟩,.int .i64 0,.string ⟨#[]⟩,.string ⟨#[]⟩,.string ⟨#[]⟩,.slice none 0 0] 28:=by rw[hX];exact cells15 HK6.out (.string ⟨#[]⟩) (.bool false) (.int .i64 0) (.string ⟨#[]⟩) (.string ⟨#[]⟩) (.string ⟨#[]⟩) (.int .i64 0) (.string ⟨#[]⟩) (.string ⟨#[]⟩) (.string ⟨#[]⟩) (.int .i64 0) (.string ⟨#[]⟩) (.string ⟨#[]⟩) (.string ⟨#[]⟩) (.slice none 0 0)
 have HKX:Hid (Keep (fun x=>x=w.heap.size) w6 X):=by rw[hX];exact keep15 _ _ _ _ _ _ _ _ _ _ _ _ _ _ _ _ _
 clear hX
 have z0:=hb.cell 0
 have z1:=hb.cell 1
 have z2:=hb.cell 2
 have z3:=hb.cell 3
 have z4:=hb.cell 4
 have z5:=hb.cell 5
 have z6:=hb.cell 6
 have z7:=hb.cell 7
 have z8:=hb.cell 8
 have z9:=hb.cell 9
 have z10:=hb.cell 10
 have z11:=hb.cell 11
 have z12:=hb.cell 12
 have z13:=hb.cell 13
 have z14:=hb.cell 14
 simp only[List.getElem?_toArray,List.getElem?_cons_zero,List.getElem?_cons_succ]at z0 z1 z2 z3 z4 z5 z6 z7 z8 z9 z10 z11 z12 z13 z14
 refine bodyPost_ret (v:=.tuple #[.agg #[.string ⟨#[]⟩,.bool false,.int .i64 0,.string ⟨#[]⟩,.string ⟨#[]⟩,.string ⟨#[]⟩,.int .i64 0,.string ⟨#[]⟩,.string ⟨#[]⟩,.string ⟨#[]⟩,.int .i64 0,.string ⟨#[]⟩,.string ⟨#[]⟩,.string ⟨#[]⟩,.slice none 0 0],.iface 41 (.int .i64 1)]) (by simp[results,Tryz.results5,go_sem,z0,z1,z2,z3,z4,z5,z6,z7,z8,z9,z10,z11,z12,z13,z14]) rfl ⟨?_,?_⟩
 · rw[HRQ.out];unfold rdOf;simp only[if_neg HM.out];rfl
 · exact HB6.out.trans (HKX.out.below HB6.out.size (fun a e=>by have h2:a=w.heap.size:=e;omega))
theorem pread_any (s:ByteArray)(w:World)(hs:s.size≤maxLen)(hT:Tab w)(hE:ErrIn w):
 Calls Tryz.prog 5 #[.string s] w fun en w'=>RdRet (readPL s.data.toList) en w'∧Below w.heap.size w w':=by
 cases hR:readL s.data.toList with
 | error x=>exact pread_bad s w hs hT hE x hR
 | ok ts=>
   cases hw:writeL (poR ts)with
   | error n=>exact pread_we s w hs hT hE ts hR n hw
   | ok m=>
     by_cases hm:m=s.data.toList
     · exact pread_yes s w hs hT hE ts hR m hw hm
     · exact pread_no s w hs hT hE ts hR m hw hm
end Go.Proofs.YtjkepjbfgeldnaaGreatDoor
