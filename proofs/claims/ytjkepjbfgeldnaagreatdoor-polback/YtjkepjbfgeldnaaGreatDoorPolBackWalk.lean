import Derived.Test.YtjkepjbfgeldnaaGreatDoorB37
import Derived.Test.YtjkepjbfgeldnaaGreatDoorB27
import Derived.Test.YtjkepjbfgeldnaaGreatDoorB18
import Derived.KernelRfl
set_option linter.unusedVariables false
set_option maxHeartbeats 12000000
namespace Go.Proofs.YtjkepjbfgeldnaaGreatDoor
open Go.RowKit
set_option linter.unusedSimpArgs false
set_option linter.unusedSectionVars false
set_option maxRecDepth 100000
def pf0:Po:=⟨⟨#[97]⟩,true,⟨0,eB,eU⟩,⟨0,eB,eU⟩,⟨0,eB,eU⟩,[]⟩
def sf0:ByteArray:=⟨#[97,32,58,32,102,111,114,98,105,100,32,40,32,112,114,105,110,99,105,112,97,108,32,44,32,97,99,116,105,111,110,32,44,32,114,101,115,111,117,114,99,101,32,41]⟩
theorem sf0_write:writeL pf0= .ok sf0.data.toList:=by
 have h:pof pf0=0:=by kernel_rfl
 have h2:spellL (poW pf0)= .ok sf0.data.toList:=by kernel_rfl
 unfold writeL
 rw[if_pos h,if_neg (by simp[pf0])]
 exact h2
theorem sf0_read:readPL sf0.data.toList= .ok pf0:=write_read (fun c hc=>by simp[pf0]at hc) sf0_write
theorem readPL_len {l:List UInt8}{p:Po}(h:readPL l= .ok p):l.length≤900:=by
 by_cases h9:900<l.length
 · have e:readL l= .error (4,0):=if_pos h9
   unfold readPL at h
   rw[e]at h
   cases h
 · omega
theorem errIn_upB {w w':World}(h:ErrIn w)(hb:Below w.heap.size w w'):ErrIn w':=errIn_keep (R:=w.heap.size) h (Below.refl _ _) (Nat.le_refl _) ⟨hb.os,hb.tape,hb.output,hb.size,fun a ha _=>hb.block a ha⟩
section
variable (p:Po) (pc:Option Addr) (cc:Nat) (s:ByteArray) (w:World) (h:PoA w p pc cc) (hN:∀c∈p.cs,∀x∈c.ex,n64 x) (hs:s.size≤maxLen) (hT:Tab w) (hE:ErrIn w)
include h hN hs hT hE
theorem polback_ww (l:List UInt8)(hw:writeL p= .ok l)(r:Po)(hr:readPL s.data.toList= .ok r):
 Calls Tryz.prog 3 #[poV p pc cc,.string s] w fun e w'=>e= .returned (.bool true)∧Below w.heap.size w w':=by
 obtain⟨V,hV⟩:∃V,V=w.alloc (.cells (poC p pc cc) 28):=⟨_,rfl⟩
 have hbV:Below w.heap.size w V:=by rw[hV];exact kqx
 have HBk:Hid (∀w',Below V.heap.size V w'→Blk w' w.heap.size (poC p pc cc) 28):=fun w' hk=>by
  have hb:Blk V w.heap.size (poC p pc cc) 28:=by rw[hV];exact Blk.new w _ _ rfl
  exact hb.up hk
 have HPA:Hid (∀W,Below V.heap.size V W→PoA W p pc cc):=fun W hW=>h.up (kqt hbV hW)
 have HTA:Hid (∀W,Below V.heap.size V W→Tab W∧ErrIn W):=fun W hW=>⟨hT.up (kqt hbV hW),errIn_upB hE (kqt hbV hW)⟩
 have HRD:Hid (∀(x:ByteArray) (R:Except Int Po) W,Below V.heap.size V W→x.size≤maxLen→readPL x.data.toList=R→Calls Tryz.prog 5 #[.string x] W fun en w'=>RdRet R en w'∧Below W.heap.size W w'):=fun x R W hW hx hr=>by subst hr;exact pread_any x W hx (HTA.out W hW).1 (HTA.out W hW).2
 have HWT:Hid (∀(Q:Po) q c (S:Except Int (List UInt8)) W,Below V.heap.size V W→PoA W Q q c→(∀c∈Q.cs,∀x∈c.ex,n64 x)→writeL Q=S→Calls Tryz.prog 6 #[poV Q q c] W fun en w'=>en= .returned (spellV S)∧Below W.heap.size W w'):=fun Q q c S W hW hq hn hS=>by subst hS;exact pwrite_any Q q c W hq (HTA.out W hW).1 hn
 have R0:=HRD.out sf0 (.ok pf0) V (Below.refl _ _) (by show 44≤maxLen;unfold maxLen;omega) sf0_read
 have W1:=fun W hW=>HWT.out p pc cc _ W hW (HPA.out W hW) hN hw
 unfold sf0 at R0
 unfold poC at hV
 have HS:Hid (s.size≤maxLen):=hs
 have hl:=write_read hN hw
 have R2:=fun W hW=>HRD.out ⟨l.toArray⟩ (.ok p) W hW (by have:=readPL_len hl;show l.toArray.size≤maxLen;unfold maxLen;simp;omega) (by simpa using hl)
 have HRW:Hid (writeL r= .ok s.data.toList):=read_write hr
 have R3:=fun W hW=>HRD.out s (.ok r) W hW hs hr
 unfold poV at W1 ⊢
 clear h hN hs hT hE hw hl hr
 go_enter Tryz.func3,Tryz.ntmps3
 go_wp2_with fail
 rw[←hV]
 clear hV
 refine R0.mono ?_
 rintro _ w1 ⟨⟨q1,c1,rfl,_,_⟩,hb1⟩
 unfold poV pf0 eB eU
 obtain⟨x0,x1,x2,x3,x4,x5,x6,x7,x8,x9,x10,x11,x12,x13,x14⟩:=po_cells (HBk.out w1 hb1)
 have hlt1:w.heap.size<w1.heap.size:=(HBk.out w1 hb1).lt
 clear R0
 go_wp2_with fail
 refine(W1 _ (kqt hb1 kqx)).mono ?_
 rintro _ w2 ⟨rfl,hb2'⟩
 have hb2:Below V.heap.size V w2:=kqt (kqt hb1 kqx) hb2'
 clear W1 x0 x1 x2 x3 x4 x5 x6 x7 x8 x9 x10 x11 x12 x13 x14 hb2' hlt1
 simp only[spellV]
 go_wp2_with fail
 refine(R2 _ hb2).mono ?_
 rintro _ w3 ⟨⟨q3,c3,rfl,hp3,_⟩,hb3'⟩
 have hb3:Below V.heap.size V w3:=kqt hb2 hb3'
 have HP3:Hid (PoA w3 p q3 c3):=hp3
 clear R2 hp3 hb3'
 unfold poV at *
 obtain⟨x0,x1,x2,x3,x4,x5,x6,x7,x8,x9,x10,x11,x12,x13,x14⟩:=po_cells (HBk.out w3 hb3)
 have hlt3:w.heap.size<w3.heap.size:=(HBk.out w3 hb3).lt
 have HSP:=fun W (hW:Below w3.heap.size w3 W)=>samePol_any p q3 pc c3 cc W (HP3.out.up hW) (HPA.out W (kqt hb3 hW))
 unfold poV at HSP
 go_wp2_with fail
 refine(HSP _ kqx).mono ?_
 rintro _ w4 ⟨rfl,hb4'⟩
 have hb4:Below V.heap.size V w4:=kqt hb3 (kqt kqx hb4')
 clear HSP HP3 x0 x1 x2 x3 x4 x5 x6 x7 x8 x9 x10 x11 x12 x13 x14 hb4' hlt3
 go_wp2_with fail
 refine(R3 _ hb4).mono ?_
 rintro _ w5 ⟨⟨q5,c5,rfl,hp5,hn5⟩,hb5'⟩
 have hb5:Below V.heap.size V w5:=kqt hb4 hb5'
 have W4:=fun W (hW:Below w5.heap.size w5 W)=>HWT.out r q5 c5 (.ok s.data.toList) W (kqt hb5 hW) (hp5.up hW) hn5 HRW.out
 have em:(s.toList == s.toList)=true:=by simp
 rw[show spellV (.ok s.data.toList)= .tuple #[.string s,.nilIface] from by simp[spellV]]at W4
 unfold poV at *
 clear R3 hb5' hp5 hn5
 go_wp2_with fail
 refine(W4 _ kqx).mono ?_
 rintro _ w6 ⟨rfl,hb6'⟩
 have hb6:Below V.heap.size V w6:=kqt hb5 (kqt kqx hb6')
 clear W4 hb6'
 go_wp2
 go_ret
 exact⟨rfl,kqt hbV hb6⟩
theorem polback_we (l:List UInt8)(hw:writeL p= .ok l)(k:Int)(hr:readPL s.data.toList= .error k):
 Calls Tryz.prog 3 #[poV p pc cc,.string s] w fun e w'=>e= .returned (.bool true)∧Below w.heap.size w w':=by
 obtain⟨V,hV⟩:∃V,V=w.alloc (.cells (poC p pc cc) 28):=⟨_,rfl⟩
 have hbV:Below w.heap.size w V:=by rw[hV];exact kqx
 have HBk:Hid (∀w',Below V.heap.size V w'→Blk w' w.heap.size (poC p pc cc) 28):=fun w' hk=>by
  have hb:Blk V w.heap.size (poC p pc cc) 28:=by rw[hV];exact Blk.new w _ _ rfl
  exact hb.up hk
 have HPA:Hid (∀W,Below V.heap.size V W→PoA W p pc cc):=fun W hW=>h.up (kqt hbV hW)
 have HTA:Hid (∀W,Below V.heap.size V W→Tab W∧ErrIn W):=fun W hW=>⟨hT.up (kqt hbV hW),errIn_upB hE (kqt hbV hW)⟩
 have HRD:Hid (∀(x:ByteArray) (R:Except Int Po) W,Below V.heap.size V W→x.size≤maxLen→readPL x.data.toList=R→Calls Tryz.prog 5 #[.string x] W fun en w'=>RdRet R en w'∧Below W.heap.size W w'):=fun x R W hW hx hr=>by subst hr;exact pread_any x W hx (HTA.out W hW).1 (HTA.out W hW).2
 have HWT:Hid (∀(Q:Po) q c (S:Except Int (List UInt8)) W,Below V.heap.size V W→PoA W Q q c→(∀c∈Q.cs,∀x∈c.ex,n64 x)→writeL Q=S→Calls Tryz.prog 6 #[poV Q q c] W fun en w'=>en= .returned (spellV S)∧Below W.heap.size W w'):=fun Q q c S W hW hq hn hS=>by subst hS;exact pwrite_any Q q c W hq (HTA.out W hW).1 hn
 have R0:=HRD.out sf0 (.ok pf0) V (Below.refl _ _) (by show 44≤maxLen;unfold maxLen;omega) sf0_read
 have W1:=fun W hW=>HWT.out p pc cc _ W hW (HPA.out W hW) hN hw
 unfold sf0 at R0
 unfold poC at hV
 have HS:Hid (s.size≤maxLen):=hs
 have hl:=write_read hN hw
 have R2:=fun W hW=>HRD.out ⟨l.toArray⟩ (.ok p) W hW (by have:=readPL_len hl;show l.toArray.size≤maxLen;unfold maxLen;simp;omega) (by simpa using hl)
 have R3:=fun W hW=>HRD.out s (.error k) W hW hs hr
 unfold poV at W1 ⊢
 clear h hN hs hT hE hw hl hr
 go_enter Tryz.func3,Tryz.ntmps3
 go_wp2_with fail
 rw[←hV]
 clear hV
 refine R0.mono ?_
 rintro _ w1 ⟨⟨q1,c1,rfl,_,_⟩,hb1⟩
 unfold poV pf0 eB eU
 obtain⟨x0,x1,x2,x3,x4,x5,x6,x7,x8,x9,x10,x11,x12,x13,x14⟩:=po_cells (HBk.out w1 hb1)
 have hlt1:w.heap.size<w1.heap.size:=(HBk.out w1 hb1).lt
 clear R0
 go_wp2_with fail
 refine(W1 _ (kqt hb1 kqx)).mono ?_
 rintro _ w2 ⟨rfl,hb2'⟩
 have hb2:Below V.heap.size V w2:=kqt (kqt hb1 kqx) hb2'
 clear W1 x0 x1 x2 x3 x4 x5 x6 x7 x8 x9 x10 x11 x12 x13 x14 hb2' hlt1
 simp only[spellV]
 go_wp2_with fail
 refine(R2 _ hb2).mono ?_
 rintro _ w3 ⟨⟨q3,c3,rfl,hp3,_⟩,hb3'⟩
 have hb3:Below V.heap.size V w3:=kqt hb2 hb3'
 have HP3:Hid (PoA w3 p q3 c3):=hp3
 clear R2 hp3 hb3'
 unfold poV at *
 obtain⟨x0,x1,x2,x3,x4,x5,x6,x7,x8,x9,x10,x11,x12,x13,x14⟩:=po_cells (HBk.out w3 hb3)
 have hlt3:w.heap.size<w3.heap.size:=(HBk.out w3 hb3).lt
 have HSP:=fun W (hW:Below w3.heap.size w3 W)=>samePol_any p q3 pc c3 cc W (HP3.out.up hW) (HPA.out W (kqt hb3 hW))
 unfold poV at HSP
 go_wp2_with fail
 refine(HSP _ kqx).mono ?_
 rintro _ w4 ⟨rfl,hb4'⟩
 have hb4:Below V.heap.size V w4:=kqt hb3 (kqt kqx hb4')
 clear HSP HP3 x0 x1 x2 x3 x4 x5 x6 x7 x8 x9 x10 x11 x12 x13 x14 hb4' hlt3
 go_wp2_with fail
 refine(R3 _ hb4).mono ?_
 rintro _ w5 ⟨rfl,hb5'⟩
 have hb5:Below V.heap.size V w5:=kqt hb4 hb5'
 clear R3 hb5'
 go_wp2
 go_ret
 exact⟨rfl,kqt hbV (kqt hb5 kqx)⟩
theorem polback_ew (n:Int)(hw:writeL p= .error n)(r:Po)(hr:readPL s.data.toList= .ok r):
 Calls Tryz.prog 3 #[poV p pc cc,.string s] w fun e w'=>e= .returned (.bool true)∧Below w.heap.size w w':=by
 obtain⟨V,hV⟩:∃V,V=w.alloc (.cells (poC p pc cc) 28):=⟨_,rfl⟩
 have hbV:Below w.heap.size w V:=by rw[hV];exact kqx
 have HBk:Hid (∀w',Below V.heap.size V w'→Blk w' w.heap.size (poC p pc cc) 28):=fun w' hk=>by
  have hb:Blk V w.heap.size (poC p pc cc) 28:=by rw[hV];exact Blk.new w _ _ rfl
  exact hb.up hk
 have HPA:Hid (∀W,Below V.heap.size V W→PoA W p pc cc):=fun W hW=>h.up (kqt hbV hW)
 have HTA:Hid (∀W,Below V.heap.size V W→Tab W∧ErrIn W):=fun W hW=>⟨hT.up (kqt hbV hW),errIn_upB hE (kqt hbV hW)⟩
 have HRD:Hid (∀(x:ByteArray) (R:Except Int Po) W,Below V.heap.size V W→x.size≤maxLen→readPL x.data.toList=R→Calls Tryz.prog 5 #[.string x] W fun en w'=>RdRet R en w'∧Below W.heap.size W w'):=fun x R W hW hx hr=>by subst hr;exact pread_any x W hx (HTA.out W hW).1 (HTA.out W hW).2
 have HWT:Hid (∀(Q:Po) q c (S:Except Int (List UInt8)) W,Below V.heap.size V W→PoA W Q q c→(∀c∈Q.cs,∀x∈c.ex,n64 x)→writeL Q=S→Calls Tryz.prog 6 #[poV Q q c] W fun en w'=>en= .returned (spellV S)∧Below W.heap.size W w'):=fun Q q c S W hW hq hn hS=>by subst hS;exact pwrite_any Q q c W hq (HTA.out W hW).1 hn
 have R0:=HRD.out sf0 (.ok pf0) V (Below.refl _ _) (by show 44≤maxLen;unfold maxLen;omega) sf0_read
 have W1:=fun W hW=>HWT.out p pc cc _ W hW (HPA.out W hW) hN hw
 unfold sf0 at R0
 unfold poC at hV
 have HS:Hid (s.size≤maxLen):=hs
 have HRW:Hid (writeL r= .ok s.data.toList):=read_write hr
 have R3:=fun W hW=>HRD.out s (.ok r) W hW hs hr
 unfold poV at W1 ⊢
 clear h hN hs hT hE hw hr
 go_enter Tryz.func3,Tryz.ntmps3
 go_wp2_with fail
 rw[←hV]
 clear hV
 refine R0.mono ?_
 rintro _ w1 ⟨⟨q1,c1,rfl,_,_⟩,hb1⟩
 unfold poV pf0 eB eU
 obtain⟨x0,x1,x2,x3,x4,x5,x6,x7,x8,x9,x10,x11,x12,x13,x14⟩:=po_cells (HBk.out w1 hb1)
 have hlt1:w.heap.size<w1.heap.size:=(HBk.out w1 hb1).lt
 clear R0
 go_wp2_with fail
 refine(W1 _ (kqt hb1 kqx)).mono ?_
 rintro _ w4 ⟨rfl,hb4'⟩
 have hb4:Below V.heap.size V w4:=kqt (kqt hb1 kqx) hb4'
 clear W1 x0 x1 x2 x3 x4 x5 x6 x7 x8 x9 x10 x11 x12 x13 x14 hb4' hlt1
 simp only[spellV]
 go_wp2_with fail
 refine(R3 _ hb4).mono ?_
 rintro _ w5 ⟨⟨q5,c5,rfl,hp5,hn5⟩,hb5'⟩
 have hb5:Below V.heap.size V w5:=kqt hb4 hb5'
 have W4:=fun W (hW:Below w5.heap.size w5 W)=>HWT.out r q5 c5 (.ok s.data.toList) W (kqt hb5 hW) (hp5.up hW) hn5 HRW.out
 have em:(s.toList == s.toList)=true:=by simp
 rw[show spellV (.ok s.data.toList)= .tuple #[.string s,.nilIface] from by simp[spellV]]at W4
 unfold poV at *
 clear R3 hb5' hp5 hn5
 go_wp2_with fail
 refine(W4 _ kqx).mono ?_
 rintro _ w6 ⟨rfl,hb6'⟩
 have hb6:Below V.heap.size V w6:=kqt hb5 (kqt kqx hb6')
 clear W4 hb6'
 go_wp2
 go_ret
 exact⟨rfl,kqt hbV hb6⟩
theorem polback_ee (n:Int)(hw:writeL p= .error n)(k:Int)(hr:readPL s.data.toList= .error k):
 Calls Tryz.prog 3 #[poV p pc cc,.string s] w fun e w'=>e= .returned (.bool true)∧Below w.heap.size w w':=by
 obtain⟨V,hV⟩:∃V,V=w.alloc (.cells (poC p pc cc) 28):=⟨_,rfl⟩
 have hbV:Below w.heap.size w V:=by rw[hV];exact kqx
 have HBk:Hid (∀w',Below V.heap.size V w'→Blk w' w.heap.size (poC p pc cc) 28):=fun w' hk=>by
  have hb:Blk V w.heap.size (poC p pc cc) 28:=by rw[hV];exact Blk.new w _ _ rfl
  exact hb.up hk
 have HPA:Hid (∀W,Below V.heap.size V W→PoA W p pc cc):=fun W hW=>h.up (kqt hbV hW)
 have HTA:Hid (∀W,Below V.heap.size V W→Tab W∧ErrIn W):=fun W hW=>⟨hT.up (kqt hbV hW),errIn_upB hE (kqt hbV hW)⟩
 have HRD:Hid (∀(x:ByteArray) (R:Except Int Po) W,Below V.heap.size V W→x.size≤maxLen→readPL x.data.toList=R→Calls Tryz.prog 5 #[.string x] W fun en w'=>RdRet R en w'∧Below W.heap.size W w'):=fun x R W hW hx hr=>by subst hr;exact pread_any x W hx (HTA.out W hW).1 (HTA.out W hW).2
 have HWT:Hid (∀(Q:Po) q c (S:Except Int (List UInt8)) W,Below V.heap.size V W→PoA W Q q c→(∀c∈Q.cs,∀x∈c.ex,n64 x)→writeL Q=S→Calls Tryz.prog 6 #[poV Q q c] W fun en w'=>en= .returned (spellV S)∧Below W.heap.size W w'):=fun Q q c S W hW hq hn hS=>by subst hS;exact pwrite_any Q q c W hq (HTA.out W hW).1 hn
 have R0:=HRD.out sf0 (.ok pf0) V (Below.refl _ _) (by show 44≤maxLen;unfold maxLen;omega) sf0_read
 have W1:=fun W hW=>HWT.out p pc cc _ W hW (HPA.out W hW) hN hw
 unfold sf0 at R0
 unfold poC at hV
 have HS:Hid (s.size≤maxLen):=hs
 have R3:=fun W hW=>HRD.out s (.error k) W hW hs hr
 unfold poV at W1 ⊢
 clear h hN hs hT hE hw hr
 go_enter Tryz.func3,Tryz.ntmps3
 go_wp2_with fail
 rw[←hV]
 clear hV
 refine R0.mono ?_
 rintro _ w1 ⟨⟨q1,c1,rfl,_,_⟩,hb1⟩
 unfold poV pf0 eB eU
 obtain⟨x0,x1,x2,x3,x4,x5,x6,x7,x8,x9,x10,x11,x12,x13,x14⟩:=po_cells (HBk.out w1 hb1)
 have hlt1:w.heap.size<w1.heap.size:=(HBk.out w1 hb1).lt
 clear R0
 go_wp2_with fail
 refine(W1 _ (kqt hb1 kqx)).mono ?_
 rintro _ w4 ⟨rfl,hb4'⟩
 have hb4:Below V.heap.size V w4:=kqt (kqt hb1 kqx) hb4'
 clear W1 x0 x1 x2 x3 x4 x5 x6 x7 x8 x9 x10 x11 x12 x13 x14 hb4' hlt1
 simp only[spellV]
 go_wp2_with fail
 refine(R3 _ hb4).mono ?_
 rintro _ w5 ⟨rfl,hb5'⟩
 have hb5:Below V.heap.size V w5:=kqt hb4 hb5'
 clear R3 hb5'
 go_wp2
 go_ret
 exact⟨rfl,kqt hbV (kqt hb5 kqx)⟩
theorem polback_walk:
 Calls Tryz.prog 3 #[poV p pc cc,.string s] w fun e w'=>e= .returned (.bool true)∧Below w.heap.size w w':=by
 cases hw:writeL p with
 | ok l=>
   cases hr:readPL s.data.toList with
   | ok r=>exact polback_ww p pc cc s w h hN hs hT hE l hw r hr
   | error k=>exact polback_we p pc cc s w h hN hs hT hE l hw k hr
 | error n=>
   cases hr:readPL s.data.toList with
   | ok r=>exact polback_ew p pc cc s w h hN hs hT hE n hw r hr
   | error k=>exact polback_ee p pc cc s w h hN hs hT hE n hw k hr
end
end Go.Proofs.YtjkepjbfgeldnaaGreatDoor
