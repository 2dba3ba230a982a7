import Derived.Test.YtgbljlabifpmgaaGreatDoorP28
import Derived.Test.YtgbljlabifpmgaaGreatDoorP18
set_option linter.unusedSimpArgs false
set_option linter.unusedVariables false
set_option maxHeartbeats 12000000
namespace Go.Proofs.YtgbljlabifpmgaaGreatDoor
open Go.RowKit
set_option maxRecDepth 100000
theorem aw_set {f:Nat}(hW:WOk f)(e:List Nd)(p:Option Addr)(c:Nat)(w:World)(k:Nat)(x:Nd)(r:List Nd)(he:EArg w e p)(hx:e[k]? =some x)(hop:x.op=5)(h0:0≤x.n)(hcn:x.n.toNat≤200)(hp:partsE (pastE f) x.n.toNat (e.drop (k+1))=some r):
 Calls Tryz.prog 29 #[.slice p e.length c,.int .i64 (k:Int)] w (WEnd e k r (sgW [91]::(setW (wdE f) (nxtE f) x.n.toNat (e.drop (k+1))++[sgW [93]])) w):=by
 have hk:k<e.length:=(List.getElem?_eq_some_iff.1 hx).1
 have hex:e[k]=x:=by rw[List.getElem?_eq_getElem hk]at hx;exact Option.some.inj hx
 have hwf:=he.nl.wfs x (List.mem_of_getElem? hx)
 have h64:=he.n64 x (List.mem_of_getElem? hx)
 obtain⟨bq,oq,hpq,hbq,e0,e1,e2,e3,_⟩:=he.nl.at hk
 rw[hex]at e0 e1 e2 e3
 subst hpq
 have hle:=he.len
 have i1:(k:Int)<(e.length:Int):=by omega
 obtain⟨op,nn,ss,tt⟩:=x
 dsimp only at hop e0 e1 e2 e3 hwf h64 ⊢
 subst hop
 dsimp only at h0 hcn hp
 obtain⟨cnt,rfl⟩:∃cnt:Nat,nn=cnt:=⟨nn.toNat,by omega⟩
 rw[Int.toNat_natCast]at hcn hp ⊢
 have HE:Hid (∀w',Below w.heap.size w w'→EArg w' e (some ⟨bq,oq,none⟩)):=fun w' hb=>he.up hb
 obtain⟨V,hV⟩:∃V,V=w.alloc (.cells #[.int .i64 5,.int .i64 cnt,.string ss,.string tt] 29):=⟨_,rfl⟩
 have hbV:Below w.heap.size w V:=by rw[hV];exact(Below.refl _ _).alloc (Nat.le_refl _) _
 have S:NV V w.heap.size 5 cnt ss tt:=by rw[hV];exact NV.new w _ _ _ _
 have HTot:∀D,D++(sepW cnt cnt++setW (wdE f) (nxtE f) (cnt-cnt) r)=[sgW [91]]++(sepW 0 cnt++setW (wdE f) (nxtE f) (cnt-0) (e.drop (k+1)))→D=sgW [91]::setW (wdE f) (nxtE f) cnt (e.drop (k+1)):=by
  intro D hD
  unfold sepW at hD
  rw[if_pos (Or.inr (Nat.le_refl _)),if_pos (Or.inl rfl),Nat.sub_self,Nat.sub_zero]at hD
  simpa[setW]using hD
 clear he hx hex h64
 go_enter Tryz.func29,Tryz.ntmps29
 obtain⟨n0,n1,n2,n3⟩:=S.cells
 go_wp2_with fail
 rw[←hV]
 clear hV e0 e1 e2 e3
 refine(word_one 5 ⟨#[91]⟩ _ (by unfold maxLen;decide)).mono ?_
 rintro en w1 ⟨⟨qA,cA,rfl,hA⟩,hbb⟩
 clear n0 n1 n2 n3
 replace hbV:=qbt hbV hbb
 replace S:=S.up hbb
 clear hbb
 obtain⟨n0,n1,n2,n3⟩:=S.cells
 go_wp2_with fail
 clear n0 n1 n2 n3
 go_loopw [12,13,14] (fun out nx i wr=>∃(j k':Nat) (D:List Tk) (q:Option Addr) (c' dl:Nat),j≤cnt∧i= .int .i64 j∧nx= .int .i64 k'∧out= .slice q dl c'∧Hid (TArg wr D dl q c')∧Hid (Below w.heap.size w wr)∧Hid (NV wr w.heap.size 5 cnt ss tt)∧Hid (partsE (pastE f) (cnt-j) (e.drop k')=some r)∧
  Hid (D++(sepW j cnt++setW (wdE f) (nxtE f) (cnt-j) (e.drop k'))=[sgW [91]]++(sepW 0 cnt++setW (wdE f) (nxtE f) (cnt-0) (e.drop (k+1))))∧dl+12*(e.length-k')≤1+12*(e.length-(k+1))∧k+1≤k'∧k'≤e.length) (fun _ _ i _=>cnt-(intOf i).toNat)
 case atStart=>exact⟨0,k+1,[⟨5,⟨#[91]⟩,0⟩],qA,cA,1,Nat.zero_le _,rfl,by go_num,rfl,hA,hbV,S,hp,rfl,by omega,Nat.le_refl _,by omega⟩
 case round=>
  obtain⟨j,k',D,qD,cD,dl,hj,rfl,rfl,rfl,HTA,HBL,HNV,HP,HD,hDl,hkk,hkl⟩:=hrel
  rename World=>wr
  have hTA:=HTA.out
  have hbV:=HBL.out
  have S:=HNV.out
  clear HTA HBL HNV
  by_cases hlt:j<cnt
  · have i1:(j:Int)<(cnt:Int):=by omega
    have hp1:=HP.out
    obtain⟨d,hd⟩:∃d,cnt-j=d+1:=⟨cnt-j-1,by omega⟩
    have hd2:cnt-(j+1)=d:=by omega
    rw[hd]at hp1
    obtain⟨s1,hs1,hs2⟩:=partsE_one hp1
    obtain⟨hsu1,hsu2⟩:=nd_suffix hs1
    obtain⟨B,hBB⟩:∃B,wdE f (e.drop k')=B:=⟨_,rfl⟩
    obtain⟨nB,hnB⟩:∃n,B.length=n:=⟨_,rfl⟩
    have HD2:Hid (D++((if j=0 then[]else[sgW [44]])++B++(sepW (j+1) cnt++setW (wdE f) (nxtE f) (cnt-(j+1)) s1))=[sgW [91]]++(sepW 0 cnt++setW (wdE f) (nxtE f) (cnt-0) (e.drop (k+1)))):=by
     have:=HD.out
     rw[set_next hlt,nxt_of hs1,hBB]at this
     exact this
    have HQ2:Hid (partsE (pastE f) (cnt-(j+1)) (e.drop (e.length-s1.length))=some r):=by rw[hd2,hsu1];exact hs2
    have HWW:=fun w1 he1=>hW e (some ⟨bq,oq,none⟩) c w1 k' s1 he1 hs1
    rw[hBB,hnB]at HWW
    clear hp1 hd hd2 HP HD hs2 hBB hnB hs1
    by_cases h0:j=0
    · have i0:¬(0:Int)<(j:Int):=by omega
      rw[if_pos h0,List.nil_append]at HD2
      obtain⟨n0,n1,n2,n3⟩:=S.cells
      go_wp2_with fail
      refine(HWW _ (HE.out _ hbV)).mono ?_
      rintro en wa ⟨⟨qB,cB,rfl,hB⟩,hbb,lB,uB⟩
      clear n0 n1 n2 n3
      replace hTA:=hTA.up hbb
      replace hbV:=qbt hbV hbb
      replace S:=S.up hbb
      clear hbb
      obtain⟨n0,n1,n2,n3⟩:=S.cells
      go_wp2_with fail
      refine(glue hTA hB (by omega)).mono ?_
      rintro en wb ⟨⟨qF,cF,rfl,hF⟩,hbb⟩
      clear n0 n1 n2 n3
      replace hbV:=qbt hbV hbb
      replace S:=S.up hbb
      clear hbb
      obtain⟨n0,n1,n2,n3⟩:=S.cells
      go_wp2
      go_roundw
      case rel=>exact⟨j+1,e.length-s1.length,D++B,qF,cF,_,by omega,by go_num,rfl,rfl,hF,hbV,S,HQ2,by rw[hsu1,←HD2.out];show _=_;simp[sgW,mkT],by omega,by omega,by omega⟩
      case measure=>simp[intOf];omega
    · have i0:(0:Int)<(j:Int):=by omega
      rw[if_neg h0]at HD2
      obtain⟨n0,n1,n2,n3⟩:=S.cells
      go_wp2_with fail
      refine(word_one 5 ⟨#[44]⟩ _ (by unfold maxLen;decide)).mono ?_
      rintro en w3 ⟨⟨qC,cC,rfl,hC⟩,hbb⟩
      clear n0 n1 n2 n3
      replace hTA:=hTA.up hbb
      replace hbV:=qbt hbV hbb
      replace S:=S.up hbb
      clear hbb
      obtain⟨n0,n1,n2,n3⟩:=S.cells
      go_wp2_with fail
      refine(glue hTA hC (by omega)).mono ?_
      rintro en w4 ⟨⟨qE,cE,rfl,hTB⟩,hbb⟩
      clear n0 n1 n2 n3
      replace hbV:=qbt hbV hbb
      replace S:=S.up hbb
      clear hbb
      obtain⟨n0,n1,n2,n3⟩:=S.cells
      go_wp2_with fail
      refine(HWW _ (HE.out _ hbV)).mono ?_
      rintro en wa ⟨⟨qB,cB,rfl,hB⟩,hbb,lB,uB⟩
      clear n0 n1 n2 n3
      replace hTB:=hTB.up hbb
      replace hbV:=qbt hbV hbb
      replace S:=S.up hbb
      clear hbb
      obtain⟨n0,n1,n2,n3⟩:=S.cells
      go_wp2_with fail
      refine(glue hTB hB (by omega)).mono ?_
      rintro en wb ⟨⟨qF,cF,rfl,hF⟩,hbb⟩
      clear n0 n1 n2 n3
      replace hbV:=qbt hbV hbb
      replace S:=S.up hbb
      clear hbb
      obtain⟨n0,n1,n2,n3⟩:=S.cells
      go_wp2
      go_roundw
      case rel=>exact⟨j+1,e.length-s1.length,D++[(⟨5,⟨#[44]⟩,0⟩:Tk)]++B,qF,cF,_,by omega,by go_num,rfl,rfl,hF,hbV,S,HQ2,by rw[hsu1,←HD2.out];show _=_;simp[sgW,mkT],by omega,by omega,by omega⟩
      case measure=>simp[intOf];omega
  · obtain rfl:j=cnt:=by omega
    have i1:¬(j:Int)<(j:Int):=by omega
    have hr:e.drop k'=r:=by have:=HP.out;rw[Nat.sub_self]at this;exact partsE_end this
    have hrl:r.length=e.length-k':=by rw[←hr,List.length_drop]
    have HD3:Hid (D=sgW [91]::setW (wdE f) (nxtE f) j (e.drop (k+1))):=HTot D (by have:=HD.out;rw[hr]at this;exact this)
    have hkr:k'=e.length-r.length:=by omega
    have HKR:Hid (k'=e.length-r.length∧r.length=e.length-k'):=⟨hkr,hrl⟩
    clear HD HTot HP hr hkr hrl
    obtain⟨n0,n1,n2,n3⟩:=S.cells
    go_wp2_with fail
    refine(word_one 5 ⟨#[93]⟩ _ (by unfold maxLen;decide)).mono ?_
    rintro en wc ⟨⟨qC,cC,rfl,hC⟩,hbb⟩
    clear n0 n1 n2 n3
    replace hTA:=hTA.up hbb
    replace hbV:=qbt hbV hbb
    replace S:=S.up hbb
    clear hbb
    obtain⟨n0,n1,n2,n3⟩:=S.cells
    go_wp2_with fail
    refine(glue hTA hC (by omega)).mono ?_
    rintro en wd ⟨⟨qE,cE,rfl,hF⟩,hbb⟩
    clear n0 n1 n2 n3
    replace hbV:=qbt hbV hbb
    replace S:=S.up hbb
    clear hbb
    obtain⟨n0,n1,n2,n3⟩:=S.cells
    go_wp2
    go_ret2
    have eW:D++[⟨5,⟨#[93]⟩,0⟩]=sgW [91]::(setW (wdE f) (nxtE f) j (e.drop (k+1))++[sgW [93]]):=by rw[HD3.out];rfl
    rw[eW]at hF
    have hln:=hF.len
    obtain⟨hkr,hrl⟩:=HKR.out
    unfold WEnd WRet
    rw[hln,←hkr]
    exact⟨⟨qE,cE,rfl,hF⟩,hbV,by omega,by omega⟩
theorem aw_rec {f:Nat}(hW:WOk f)(e:List Nd)(p:Option Addr)(c:Nat)(w:World)(k:Nat)(x:Nd)(r:List Nd)(he:EArg w e p)(hx:e[k]? =some x)(hop:x.op=6)(h0:0≤x.n)(hcn:x.n.toNat≤200)(nm0:ByteArray)(hp:recLoop (pastE f) x.n.toNat nm0 (e.drop (k+1))=some r):
 Calls Tryz.prog 29 #[.slice p e.length c,.int .i64 (k:Int)] w (WEnd e k r (sgW [123]::(recW (wdE f) (nxtE f) x.n.toNat (e.drop (k+1))++[sgW [125]])) w):=by
 have hk:k<e.length:=(List.getElem?_eq_some_iff.1 hx).1
 have hex:e[k]=x:=by rw[List.getElem?_eq_getElem hk]at hx;exact Option.some.inj hx
 have hwf:=he.nl.wfs x (List.mem_of_getElem? hx)
 have h64:=he.n64 x (List.mem_of_getElem? hx)
 obtain⟨bq,oq,hpq,hbq,e0,e1,e2,e3,_⟩:=he.nl.at hk
 rw[hex]at e0 e1 e2 e3
 subst hpq
 have hle:=he.len
 have i1:(k:Int)<(e.length:Int):=by omega
 obtain⟨op,nn,ss,tt⟩:=x
 dsimp only at hop e0 e1 e2 e3 hwf h64 ⊢
 subst hop
 dsimp only at h0 hcn hp
 obtain⟨cnt,rfl⟩:∃cnt:Nat,nn=cnt:=⟨nn.toNat,by omega⟩
 rw[Int.toNat_natCast]at hcn hp ⊢
 have HE:Hid (∀w',Below w.heap.size w w'→EArg w' e (some ⟨bq,oq,none⟩)):=fun w' hb=>he.up hb
 obtain⟨V,hV⟩:∃V,V=w.alloc (.cells #[.int .i64 6,.int .i64 cnt,.string ss,.string tt] 29):=⟨_,rfl⟩
 have hbV:Below w.heap.size w V:=by rw[hV];exact(Below.refl _ _).alloc (Nat.le_refl _) _
 have S:NV V w.heap.size 6 cnt ss tt:=by rw[hV];exact NV.new w _ _ _ _
 have HTot:∀D,D++(sepW cnt cnt++recW (wdE f) (nxtE f) (cnt-cnt) r)=[sgW [123]]++(sepW 0 cnt++recW (wdE f) (nxtE f) (cnt-0) (e.drop (k+1)))→D=sgW [123]::recW (wdE f) (nxtE f) cnt (e.drop (k+1)):=by
  intro D hD
  unfold sepW at hD
  rw[if_pos (Or.inr (Nat.le_refl _)),if_pos (Or.inl rfl),Nat.sub_self,Nat.sub_zero]at hD
  simpa[recW_zero]using hD
 clear he hx hex h64
 go_enter Tryz.func29,Tryz.ntmps29
 obtain⟨n0,n1,n2,n3⟩:=S.cells
 go_wp2_with fail
 rw[←hV]
 clear hV e0 e1 e2 e3
 refine(word_one 5 ⟨#[123]⟩ _ (by unfold maxLen;decide)).mono ?_
 rintro en w1 ⟨⟨qA,cA,rfl,hA⟩,hbb⟩
 clear n0 n1 n2 n3
 replace hbV:=qbt hbV hbb
 replace S:=S.up hbb
 clear hbb
 obtain⟨n0,n1,n2,n3⟩:=S.cells
 go_wp2_with fail
 clear n0 n1 n2 n3
 go_loopw [12,13,14] (fun out nx i wr=>∃(j k':Nat) (D:List Tk) (q:Option Addr) (c' dl:Nat),j≤cnt∧i= .int .i64 j∧nx= .int .i64 k'∧out= .slice q dl c'∧Hid (TArg wr D dl q c')∧Hid (Below w.heap.size w wr)∧Hid (NV wr w.heap.size 6 cnt ss tt)∧Hid (∃nm,recLoop (pastE f) (cnt-j) nm (e.drop k')=some r)∧
  Hid (D++(sepW j cnt++recW (wdE f) (nxtE f) (cnt-j) (e.drop k'))=[sgW [123]]++(sepW 0 cnt++recW (wdE f) (nxtE f) (cnt-0) (e.drop (k+1))))∧dl+12*(e.length-k')≤1+12*(e.length-(k+1))∧k+1≤k'∧k'≤e.length) (fun _ _ i _=>cnt-(intOf i).toNat)
 case atStart=>exact⟨0,k+1,[⟨5,⟨#[123]⟩,0⟩],qA,cA,1,Nat.zero_le _,rfl,by go_num,rfl,hA,hbV,S,⟨nm0,hp⟩,rfl,by omega,Nat.le_refl _,by omega⟩
 case round=>
  obtain⟨j,k',D,qD,cD,dl,hj,rfl,rfl,rfl,HTA,HBL,HNV,HP,HD,hDl,hkk,hkl⟩:=hrel
  rename World=>wr
  have hTA:=HTA.out
  have hbV:=HBL.out
  have S:=HNV.out
  clear HTA HBL HNV
  by_cases hlt:j<cnt
  · have i1:(j:Int)<(cnt:Int):=by omega
    obtain⟨nm,hp1⟩:=HP.out
    obtain⟨d,hd⟩:∃d,cnt-j=d+1:=⟨cnt-j-1,by omega⟩
    have hd2:cnt-(j+1)=d:=by omega
    rw[hd]at hp1
    obtain⟨x,m,s1,hv,h7,hok,_,hs1,hs2⟩:=recLoop_one hp1
    have hm:e.drop (k'+1)=m:=by
     have:=congrArg List.tail hv
     rwa [List.tail_drop,List.tail_cons]at this
    have hs1':pastE f (e.drop (k'+1))=some s1:=by rw[hm];exact hs1
    obtain⟨hsu1,hsu2⟩:=nd_suffix hs1'
    have hkl2:k'<e.length:=by have:=congrArg List.length hv;rw[List.length_drop,List.length_cons]at this;omega
    have hex:e[k']=x:=by have:=congrArg List.head? hv;rw[List.head?_drop,List.getElem?_eq_getElem hkl2]at this;exact Option.some.inj this
    have he1:=HE.out _ hbV
    have hwx:=(he1.nl.wfs x (by rw[←hex];exact List.getElem_mem hkl2)).1
    obtain⟨bq',oq',hpq',hbq',x0,x1,x2,x3,_⟩:=he1.nl.at hkl2
    cases hpq'
    rw[hex]at x0 x1 x2 x3
    obtain⟨B,hBB⟩:∃B,wdE f m=B:=⟨_,rfl⟩
    obtain⟨nB,hnB⟩:∃n,B.length=n:=⟨_,rfl⟩
    have HD2:Hid (D++((if j=0 then[]else[sgW [44]])++(nmW x.s.data.toList::sgW [58]::B)++(sepW (j+1) cnt++recW (wdE f) (nxtE f) (cnt-(j+1)) s1))=[sgW [123]]++(sepW 0 cnt++recW (wdE f) (nxtE f) (cnt-0) (e.drop (k+1)))):=by
     have:=HD.out
     rw[hv,rec_next hlt,nxt_of hs1,hBB]at this
     exact this
    have HQ2:Hid (∃nm,recLoop (pastE f) (cnt-(j+1)) nm (e.drop (e.length-s1.length))=some r):=⟨x.s,by rw[hd2,hsu1];exact hs2⟩
    have HWW:=fun w1 he1=>hW e (some ⟨bq,oq,none⟩) c w1 (k'+1) s1 he1 hs1'
    rw[hm,hBB,hnB]at HWW
    rw[nmW_self]at HD2
    obtain⟨xo,xn,xs,xt⟩:=x
    dsimp only at x0 x1 x2 x3 HD2 hwx
    have i9:(k':Int)<(e.length:Int):=by omega
    clear hp1 hd hd2 HP HD hs2 hBB hnB hs1 hs1' hv h7 hok hex he1 hm
    by_cases h0:j=0
    · have i0:¬(0:Int)<(j:Int):=by omega
      rw[if_pos h0,List.nil_append]at HD2
      obtain⟨n0,n1,n2,n3⟩:=S.cells
      go_wp2_with fail
      refine(word_one 1 xs _ hwx).mono ?_
      rintro en w21 ⟨⟨qG,cG,rfl,hG⟩,hb21⟩
      clear n0 n1 n2 n3
      replace hTA:=hTA.up hb21
      replace hbV:=qbt hbV hb21
      replace S:=S.up hb21
      clear hb21
      go_wp2_with fail
      refine(word_one 5 ⟨#[58]⟩ _ (by unfold maxLen;decide)).mono ?_
      rintro en w22 ⟨⟨qH,cH,rfl,hH⟩,hb22⟩
      replace hTA:=hTA.up hb22
      replace hG:=hG.up hb22
      replace hbV:=qbt hbV hb22
      replace S:=S.up hb22
      clear hb22
      go_wp2_with fail
      refine(glue hG hH (by omega)).mono ?_
      rintro en w23 ⟨⟨qI,cI,rfl,hI⟩,hb23⟩
      replace hTA:=hTA.up hb23
      replace hbV:=qbt hbV hb23
      replace S:=S.up hb23
      clear hb23
      go_wp2_with fail
      refine(glue hTA hI (by omega)).mono ?_
      rintro en w24 ⟨⟨qTC,cTC,rfl,hTC⟩,hb24⟩
      replace hbV:=qbt hbV hb24
      replace S:=S.up hb24
      clear hb24
      obtain⟨n0,n1,n2,n3⟩:=S.cells
      go_wp2_with fail
      refine(HWW _ (HE.out _ hbV)).mono ?_
      rintro en wa ⟨⟨qB,cB,rfl,hB⟩,hbb,lB,uB⟩
      clear n0 n1 n2 n3
      replace hTC:=hTC.up hbb
      replace hbV:=qbt hbV hbb
      replace S:=S.up hbb
      clear hbb
      obtain⟨n0,n1,n2,n3⟩:=S.cells
      go_wp2_with fail
      refine(glue hTC hB (by omega)).mono ?_
      rintro en wb ⟨⟨qF,cF,rfl,hF⟩,hbb⟩
      clear n0 n1 n2 n3
      replace hbV:=qbt hbV hbb
      replace S:=S.up hbb
      clear hbb
      obtain⟨n0,n1,n2,n3⟩:=S.cells
      go_wp2
      go_roundw
      case rel=>exact⟨j+1,e.length-s1.length,D++([(⟨1,xs,0⟩:Tk)]++[(⟨5,⟨#[58]⟩,0⟩:Tk)])++B,qF,cF,_,by omega,by go_num,rfl,rfl,hF,hbV,S,HQ2,by rw[hsu1,←HD2.out];show _=_;simp[sgW,mkT],by omega,by omega,by omega⟩
      case measure=>simp[intOf];omega
    · have i0:(0:Int)<(j:Int):=by omega
      rw[if_neg h0]at HD2
      obtain⟨n0,n1,n2,n3⟩:=S.cells
      go_wp2_with fail
      refine(word_one 5 ⟨#[44]⟩ _ (by unfold maxLen;decide)).mono ?_
      rintro en w3 ⟨⟨qC,cC,rfl,hC⟩,hbb⟩
      clear n0 n1 n2 n3
      replace x2:=(hbb.cell (p:=⟨bq,oq+k'*4+2,none⟩) hbq').trans x2
      replace hbq':=Nat.lt_of_lt_of_le hbq' hbb.size
      replace hTA:=hTA.up hbb
      replace hbV:=qbt hbV hbb
      replace S:=S.up hbb
      clear hbb
      obtain⟨n0,n1,n2,n3⟩:=S.cells
      go_wp2_with fail
      refine(glue hTA hC (by omega)).mono ?_
      rintro en w4 ⟨⟨qE,cE,rfl,hTB⟩,hbb⟩
      clear n0 n1 n2 n3
      replace x2:=(hbb.cell (p:=⟨bq,oq+k'*4+2,none⟩) hbq').trans x2
      replace hbq':=Nat.lt_of_lt_of_le hbq' hbb.size
      replace hbV:=qbt hbV hbb
      replace S:=S.up hbb
      clear hbb
      obtain⟨n0,n1,n2,n3⟩:=S.cells
      go_wp2_with fail
      refine(word_one 1 xs _ hwx).mono ?_
      rintro en w21 ⟨⟨qG,cG,rfl,hG⟩,hb21⟩
      clear n0 n1 n2 n3
      replace hTB:=hTB.up hb21
      replace hbV:=qbt hbV hb21
      replace S:=S.up hb21
      clear hb21
      go_wp2_with fail
      refine(word_one 5 ⟨#[58]⟩ _ (by unfold maxLen;decide)).mono ?_
      rintro en w22 ⟨⟨qH,cH,rfl,hH⟩,hb22⟩
      replace hTB:=hTB.up hb22
      replace hG:=hG.up hb22
      replace hbV:=qbt hbV hb22
      replace S:=S.up hb22
      clear hb22
      go_wp2_with fail
      refine(glue hG hH (by omega)).mono ?_
      rintro en w23 ⟨⟨qI,cI,rfl,hI⟩,hb23⟩
      replace hTB:=hTB.up hb23
      replace hbV:=qbt hbV hb23
      replace S:=S.up hb23
      clear hb23
      go_wp2_with fail
      refine(glue hTB hI (by omega)).mono ?_
      rintro en w24 ⟨⟨qTC,cTC,rfl,hTC⟩,hb24⟩
      replace hbV:=qbt hbV hb24
      replace S:=S.up hb24
      clear hb24
      obtain⟨n0,n1,n2,n3⟩:=S.cells
      go_wp2_with fail
      refine(HWW _ (HE.out _ hbV)).mono ?_
      rintro en wa ⟨⟨qB,cB,rfl,hB⟩,hbb,lB,uB⟩
      clear n0 n1 n2 n3
      replace hTC:=hTC.up hbb
      replace hbV:=qbt hbV hbb
      replace S:=S.up hbb
      clear hbb
      obtain⟨n0,n1,n2,n3⟩:=S.cells
      go_wp2_with fail
      refine(glue hTC hB (by omega)).mono ?_
      rintro en wb ⟨⟨qF,cF,rfl,hF⟩,hbb⟩
      clear n0 n1 n2 n3
      replace hbV:=qbt hbV hbb
      replace S:=S.up hbb
      clear hbb
      obtain⟨n0,n1,n2,n3⟩:=S.cells
      go_wp2
      go_roundw
      case rel=>exact⟨j+1,e.length-s1.length,D++[(⟨5,⟨#[44]⟩,0⟩:Tk)]++([(⟨1,xs,0⟩:Tk)]++[(⟨5,⟨#[58]⟩,0⟩:Tk)])++B,qF,cF,_,by omega,by go_num,rfl,rfl,hF,hbV,S,HQ2,by rw[hsu1,←HD2.out];show _=_;simp[sgW,mkT],by omega,by omega,by omega⟩
      case measure=>simp[intOf];omega
  · obtain rfl:j=cnt:=by omega
    have i1:¬(j:Int)<(j:Int):=by omega
    have hr:e.drop k'=r:=by obtain⟨nm,this⟩:=HP.out;rw[Nat.sub_self]at this;exact recLoop_none this
    have hrl:r.length=e.length-k':=by rw[←hr,List.length_drop]
    have HD3:Hid (D=sgW [123]::recW (wdE f) (nxtE f) j (e.drop (k+1))):=HTot D (by have:=HD.out;rw[hr]at this;exact this)
    have hkr:k'=e.length-r.length:=by omega
    have HKR:Hid (k'=e.length-r.length∧r.length=e.length-k'):=⟨hkr,hrl⟩
    clear HD HTot HP hr hkr hrl
    obtain⟨n0,n1,n2,n3⟩:=S.cells
    go_wp2_with fail
    refine(word_one 5 ⟨#[125]⟩ _ (by unfold maxLen;decide)).mono ?_
    rintro en wc ⟨⟨qC,cC,rfl,hC⟩,hbb⟩
    clear n0 n1 n2 n3
    replace hTA:=hTA.up hbb
    replace hbV:=qbt hbV hbb
    replace S:=S.up hbb
    clear hbb
    obtain⟨n0,n1,n2,n3⟩:=S.cells
    go_wp2_with fail
    refine(glue hTA hC (by omega)).mono ?_
    rintro en wd ⟨⟨qE,cE,rfl,hF⟩,hbb⟩
    clear n0 n1 n2 n3
    replace hbV:=qbt hbV hbb
    replace S:=S.up hbb
    clear hbb
    obtain⟨n0,n1,n2,n3⟩:=S.cells
    go_wp2
    go_ret2
    have eW:D++[⟨5,⟨#[125]⟩,0⟩]=sgW [123]::(recW (wdE f) (nxtE f) j (e.drop (k+1))++[sgW [125]]):=by rw[HD3.out];rfl
    rw[eW]at hF
    have hln:=hF.len
    obtain⟨hkr,hrl⟩:=HKR.out
    unfold WEnd WRet
    rw[hln,←hkr]
    exact⟨⟨qE,cE,rfl,hF⟩,hbV,by omega,by omega⟩
theorem wo_not {f:Nat}(hP:POk f)(e:List Nd)(p:Option Addr)(c:Nat)(w:World)(k:Nat)(x:Nd)(r:List Nd)(he:EArg w e p)(hx:e[k]? =some x)(hop:x.op=9)(p1:pastE f (e.drop (k+1))=some r):
 Calls Tryz.prog 15 #[.slice p e.length c,.int .i64 (k:Int)] w (WEnd e k r (sgW [33]::partW (wdE f) 6 (e.drop (k+1))) w):=by
 have hk:k<e.length:=(List.getElem?_eq_some_iff.1 hx).1
 have hex:e[k]=x:=by rw[List.getElem?_eq_getElem hk]at hx;exact Option.some.inj hx
 have hwf:=he.nl.wfs x (List.mem_of_getElem? hx)
 obtain⟨bq,oq,hpq,hbq,e0,e1,e2,e3,_⟩:=he.nl.at hk
 rw[hex]at e0 e1 e2 e3
 subst hpq
 have hle:=he.len
 have i1:(k:Int)<(e.length:Int):=by omega
 obtain⟨op,nn,ss,tt⟩:=x
 dsimp only at hop e0 e1 e2 e3 hwf ⊢
 subst hop
 have HL:=fun w=>level_any 9 w (by omega)
 rw[show lvO 9=6 from rfl]at HL
 obtain⟨A,hAA⟩:∃A,partW (wdE f) 6 (e.drop (k+1))=A:=⟨_,rfl⟩
 rw[hAA]
 obtain⟨nA,hnA⟩:∃n,A.length=n:=⟨_,rfl⟩
 have HPA:=fun w he=>part_at hP e (some ⟨bq,oq,none⟩) c w (k+1) _ r 6 A nA _ he rfl p1 hAA hnA rfl
 have hsA:=(nd_suffix p1).2
 have hbV:Below w.heap.size w (w.alloc (.cells #[.int .i64 9,.int .i64 nn,.string ss,.string tt] 29)):=(Below.refl _ _).alloc (Nat.le_refl _) _
 have hsV:w.heap.size<(w.alloc (.cells #[.int .i64 9,.int .i64 nn,.string ss,.string tt] 29)).heap.size:=by simp
 have m0:(w.alloc (.cells #[.int .i64 9,.int .i64 nn,.string ss,.string tt] 29)).cell? ⟨w.heap.size,0,none⟩=some (.int .i64 9):=by simp
 have m2:(w.alloc (.cells #[.int .i64 9,.int .i64 nn,.string ss,.string tt] 29)).cell? ⟨w.heap.size,2,none⟩=some (.string ss):=by simp
 have HE:Hid (∀w',Below w.heap.size w w'→EArg w' e (some ⟨bq,oq,none⟩)):=fun w' hb=>he.up hb
 clear hAA hnA he hx hex hP
 go_enter Tryz.func15,Tryz.ntmps15
 go_wp2_with (go_at_call 23;refine(HL _).mono ?_;rintro en w' ⟨rfl,rfl⟩)
 generalize hV:w.alloc (.cells #[.int .i64 9,.int .i64 nn,.string ss,.string tt] 29)=V at *
 clear hV e0 e1 e2 e3
 refine(HPA _ (HE.out _ hbV)).mono ?_
 rintro en w1 ⟨⟨qA,cA,rfl,hA⟩,hb1',lA,uA⟩
 clear HPA
 have hb1:=qbt hbV hb1'
 clear hb1' hbV
 go_wp2_with fail
 refine(word_one 5 ⟨#[33]⟩ _ (by unfold maxLen;decide)).mono ?_
 rintro en w2 ⟨⟨qS,cS,rfl,hS⟩,hb2'⟩
 have hA:=hA.up hb2'
 have hb2:=qbt hb1 hb2'
 clear hb2' hb1
 go_wp2_with fail
 refine(glue hS hA (by omega)).mono ?_
 rintro en w3 ⟨⟨qX,cX,rfl,hX⟩,hb3'⟩
 have hb3:=qbt hb2 hb3'
 clear hb3' hb2
 go_wp2
 go_ret2
 have eW:[⟨5,⟨#[33]⟩,0⟩]++A=sgW [33]::A:=by
  rfl
 have hln:=hX.len
 rw[eW]at hln
 unfold WEnd WRet
 rw[hln]
 rw[eW]at hX
 exact⟨⟨qX,cX,rfl,hX⟩,hb3,by omega,by omega⟩
theorem wo_or {f:Nat}(hP:POk f)(e:List Nd)(p:Option Addr)(c:Nat)(w:World)(k:Nat)(x:Nd)(s r:List Nd)(he:EArg w e p)(hx:e[k]? =some x)(hop:x.op=12)(p1:pastE f (e.drop (k+1))=some s)(p2:pastE f s=some r):
 Calls Tryz.prog 15 #[.slice p e.length c,.int .i64 (k:Int)] w (WEnd e k r (partW (wdE f) 1 (e.drop (k+1))++signW 12::partW (wdE f) 2 s) w):=by
 have hk:k<e.length:=(List.getElem?_eq_some_iff.1 hx).1
 have hex:e[k]=x:=by rw[List.getElem?_eq_getElem hk]at hx;exact Option.some.inj hx
 have hwf:=he.nl.wfs x (List.mem_of_getElem? hx)
 obtain⟨bq,oq,hpq,hbq,e0,e1,e2,e3,_⟩:=he.nl.at hk
 rw[hex]at e0 e1 e2 e3
 subst hpq
 have hle:=he.len
 have i1:(k:Int)<(e.length:Int):=by omega
 obtain⟨op,nn,ss,tt⟩:=x
 dsimp only at hop e0 e1 e2 e3 hwf ⊢
 subst hop
 have HL:=fun w=>level_any 12 w (by omega)
 rw[show lvO 12=1 from rfl]at HL
 obtain⟨A,hAA⟩:∃A,partW (wdE f) 1 (e.drop (k+1))=A:=⟨_,rfl⟩
 rw[hAA]
 obtain⟨nA,hnA⟩:∃n,A.length=n:=⟨_,rfl⟩
 have HPA:=fun w he=>part_at hP e (some ⟨bq,oq,none⟩) c w (k+1) _ s 1 A nA _ he rfl p1 hAA hnA rfl
 have hsA:=(nd_suffix p1).2
 obtain⟨B,hAB⟩:∃A,partW (wdE f) 2 s=A:=⟨_,rfl⟩
 rw[hAB]
 obtain⟨nB,hnB⟩:∃n,B.length=n:=⟨_,rfl⟩
 have hmB:e.drop (e.length-s.length)=s:=(nd_suffix p1).1
 have HPB:=fun w he=>part_at hP e (some ⟨bq,oq,none⟩) c w (e.length-s.length) _ r 2 B nB _ he hmB p2 hAB hnB rfl
 have hsB:=(nd_suffix (show pastE f (e.drop (e.length-s.length))=some r by rw[hmB];exact p2)).2
 have hbV:Below w.heap.size w (w.alloc (.cells #[.int .i64 12,.int .i64 nn,.string ss,.string tt] 29)):=(Below.refl _ _).alloc (Nat.le_refl _) _
 have hsV:w.heap.size<(w.alloc (.cells #[.int .i64 12,.int .i64 nn,.string ss,.string tt] 29)).heap.size:=by simp
 have m0:(w.alloc (.cells #[.int .i64 12,.int .i64 nn,.string ss,.string tt] 29)).cell? ⟨w.heap.size,0,none⟩=some (.int .i64 12):=by simp
 have m2:(w.alloc (.cells #[.int .i64 12,.int .i64 nn,.string ss,.string tt] 29)).cell? ⟨w.heap.size,2,none⟩=some (.string ss):=by simp
 have HE:Hid (∀w',Below w.heap.size w w'→EArg w' e (some ⟨bq,oq,none⟩)):=fun w' hb=>he.up hb
 clear hAA hnA hAB hnB he hx hex hP
 go_enter Tryz.func15,Tryz.ntmps15
 go_wp2_with (go_at_call 23;refine(HL _).mono ?_;rintro en w' ⟨rfl,rfl⟩)
 generalize hV:w.alloc (.cells #[.int .i64 12,.int .i64 nn,.string ss,.string tt] 29)=V at *
 clear hV e0 e1 e2 e3
 refine(HPA _ (HE.out _ hbV)).mono ?_
 rintro en w1 ⟨⟨qA,cA,rfl,hA⟩,hb1',lA,uA⟩
 clear HPA
 have hb1:=qbt hbV hb1'
 have m0:=(hb1'.cell (p:=⟨w.heap.size,0,none⟩) hsV).trans m0
 have m2:=(hb1'.cell (p:=⟨w.heap.size,2,none⟩) hsV).trans m2
 have hsV:=Nat.lt_of_lt_of_le hsV hb1'.size
 clear hb1' hbV
 go_wp2_with fail
 refine(HPB _ (HE.out _ hb1)).mono ?_
 rintro en w2 ⟨⟨qB,cB,rfl,hB⟩,hb2',lB,uB⟩
 clear HPB
 have hA:=hA.up hb2'
 have hb2:=qbt hb1 hb2'
 have m0:=(hb2'.cell (p:=⟨w.heap.size,0,none⟩) hsV).trans m0
 have m2:=(hb2'.cell (p:=⟨w.heap.size,2,none⟩) hsV).trans m2
 have hsV:=Nat.lt_of_lt_of_le hsV hb2'.size
 clear hb2' hb1
 go_wp2_with fail
 refine(signOf_any 0 (by omega) _).mono ?_
 rintro en w3 ⟨⟨qS,cS,rfl,hS⟩,hb3'⟩
 have hA:=hA.up hb3'
 have hB:=hB.up hb3'
 have hb3:=qbt hb2 hb3'
 have m0:=(hb3'.cell (p:=⟨w.heap.size,0,none⟩) hsV).trans m0
 have m2:=(hb3'.cell (p:=⟨w.heap.size,2,none⟩) hsV).trans m2
 have hsV:=Nat.lt_of_lt_of_le hsV hb3'.size
 clear hb3' hb2
 go_wp2_with fail
 refine(glue hS hB (by omega)).mono ?_
 rintro en w4 ⟨⟨qX,cX,rfl,hX⟩,hb4'⟩
 have hA:=hA.up hb4'
 have hb4:=qbt hb3 hb4'
 have m0:=(hb4'.cell (p:=⟨w.heap.size,0,none⟩) hsV).trans m0
 have m2:=(hb4'.cell (p:=⟨w.heap.size,2,none⟩) hsV).trans m2
 have hsV:=Nat.lt_of_lt_of_le hsV hb4'.size
 clear hb4' hb3
 go_wp2_with fail
 refine(glue hA hX (by omega)).mono ?_
 rintro en w5 ⟨⟨qY,cY,rfl,hY⟩,hb5'⟩
 have hb5:=qbt hb4 hb5'
 have m0:=(hb5'.cell (p:=⟨w.heap.size,0,none⟩) hsV).trans m0
 have m2:=(hb5'.cell (p:=⟨w.heap.size,2,none⟩) hsV).trans m2
 have hsV:=Nat.lt_of_lt_of_le hsV hb5'.size
 clear hb5' hb4
 go_wp2
 go_ret2
 have eW:A++([signW (op9 0)]++B)=A++signW 12::B:=by
  rfl
 have hln:=hY.len
 rw[eW]at hln
 unfold WEnd WRet
 rw[hln]
 rw[eW]at hY
 exact⟨⟨qY,cY,rfl,hY⟩,hb5,by omega,by omega⟩
theorem wo_and {f:Nat}(hP:POk f)(e:List Nd)(p:Option Addr)(c:Nat)(w:World)(k:Nat)(x:Nd)(s r:List Nd)(he:EArg w e p)(hx:e[k]? =some x)(hop:x.op=11)(p1:pastE f (e.drop (k+1))=some s)(p2:pastE f s=some r):
 Calls Tryz.prog 15 #[.slice p e.length c,.int .i64 (k:Int)] w (WEnd e k r (partW (wdE f) 2 (e.drop (k+1))++signW 11::partW (wdE f) 3 s) w):=by
 have hk:k<e.length:=(List.getElem?_eq_some_iff.1 hx).1
 have hex:e[k]=x:=by rw[List.getElem?_eq_getElem hk]at hx;exact Option.some.inj hx
 have hwf:=he.nl.wfs x (List.mem_of_getElem? hx)
 obtain⟨bq,oq,hpq,hbq,e0,e1,e2,e3,_⟩:=he.nl.at hk
 rw[hex]at e0 e1 e2 e3
 subst hpq
 have hle:=he.len
 have i1:(k:Int)<(e.length:Int):=by omega
 obtain⟨op,nn,ss,tt⟩:=x
 dsimp only at hop e0 e1 e2 e3 hwf ⊢
 subst hop
 have HL:=fun w=>level_any 11 w (by omega)
 rw[show lvO 11=2 from rfl]at HL
 obtain⟨A,hAA⟩:∃A,partW (wdE f) 2 (e.drop (k+1))=A:=⟨_,rfl⟩
 rw[hAA]
 obtain⟨nA,hnA⟩:∃n,A.length=n:=⟨_,rfl⟩
 have HPA:=fun w he=>part_at hP e (some ⟨bq,oq,none⟩) c w (k+1) _ s 2 A nA _ he rfl p1 hAA hnA rfl
 have hsA:=(nd_suffix p1).2
 obtain⟨B,hAB⟩:∃A,partW (wdE f) 3 s=A:=⟨_,rfl⟩
 rw[hAB]
 obtain⟨nB,hnB⟩:∃n,B.length=n:=⟨_,rfl⟩
 have hmB:e.drop (e.length-s.length)=s:=(nd_suffix p1).1
 have HPB:=fun w he=>part_at hP e (some ⟨bq,oq,none⟩) c w (e.length-s.length) _ r 3 B nB _ he hmB p2 hAB hnB rfl
 have hsB:=(nd_suffix (show pastE f (e.drop (e.length-s.length))=some r by rw[hmB];exact p2)).2
 have hbV:Below w.heap.size w (w.alloc (.cells #[.int .i64 11,.int .i64 nn,.string ss,.string tt] 29)):=(Below.refl _ _).alloc (Nat.le_refl _) _
 have hsV:w.heap.size<(w.alloc (.cells #[.int .i64 11,.int .i64 nn,.string ss,.string tt] 29)).heap.size:=by simp
 have m0:(w.alloc (.cells #[.int .i64 11,.int .i64 nn,.string ss,.string tt] 29)).cell? ⟨w.heap.size,0,none⟩=some (.int .i64 11):=by simp
 have m2:(w.alloc (.cells #[.int .i64 11,.int .i64 nn,.string ss,.string tt] 29)).cell? ⟨w.heap.size,2,none⟩=some (.string ss):=by simp
 have HE:Hid (∀w',Below w.heap.size w w'→EArg w' e (some ⟨bq,oq,none⟩)):=fun w' hb=>he.up hb
 clear hAA hnA hAB hnB he hx hex hP
 go_enter Tryz.func15,Tryz.ntmps15
 go_wp2_with (go_at_call 23;refine(HL _).mono ?_;rintro en w' ⟨rfl,rfl⟩)
 generalize hV:w.alloc (.cells #[.int .i64 11,.int .i64 nn,.string ss,.string tt] 29)=V at *
 clear hV e0 e1 e2 e3
 refine(HPA _ (HE.out _ hbV)).mono ?_
 rintro en w1 ⟨⟨qA,cA,rfl,hA⟩,hb1',lA,uA⟩
 clear HPA
 have hb1:=qbt hbV hb1'
 have m0:=(hb1'.cell (p:=⟨w.heap.size,0,none⟩) hsV).trans m0
 have m2:=(hb1'.cell (p:=⟨w.heap.size,2,none⟩) hsV).trans m2
 have hsV:=Nat.lt_of_lt_of_le hsV hb1'.size
 clear hb1' hbV
 go_wp2_with fail
 refine(HPB _ (HE.out _ hb1)).mono ?_
 rintro en w2 ⟨⟨qB,cB,rfl,hB⟩,hb2',lB,uB⟩
 clear HPB
 have hA:=hA.up hb2'
 have hb2:=qbt hb1 hb2'
 have m0:=(hb2'.cell (p:=⟨w.heap.size,0,none⟩) hsV).trans m0
 have m2:=(hb2'.cell (p:=⟨w.heap.size,2,none⟩) hsV).trans m2
 have hsV:=Nat.lt_of_lt_of_le hsV hb2'.size
 clear hb2' hb1
 go_wp2_with fail
 refine(signOf_any 1 (by omega) _).mono ?_
 rintro en w3 ⟨⟨qS,cS,rfl,hS⟩,hb3'⟩
 have hA:=hA.up hb3'
 have hB:=hB.up hb3'
 have hb3:=qbt hb2 hb3'
 have m0:=(hb3'.cell (p:=⟨w.heap.size,0,none⟩) hsV).trans m0
 have m2:=(hb3'.cell (p:=⟨w.heap.size,2,none⟩) hsV).trans m2
 have hsV:=Nat.lt_of_lt_of_le hsV hb3'.size
 clear hb3' hb2
 go_wp2_with fail
 refine(glue hS hB (by omega)).mono ?_
 rintro en w4 ⟨⟨qX,cX,rfl,hX⟩,hb4'⟩
 have hA:=hA.up hb4'
 have hb4:=qbt hb3 hb4'
 have m0:=(hb4'.cell (p:=⟨w.heap.size,0,none⟩) hsV).trans m0
 have m2:=(hb4'.cell (p:=⟨w.heap.size,2,none⟩) hsV).trans m2
 have hsV:=Nat.lt_of_lt_of_le hsV hb4'.size
 clear hb4' hb3
 go_wp2_with fail
 refine(glue hA hX (by omega)).mono ?_
 rintro en w5 ⟨⟨qY,cY,rfl,hY⟩,hb5'⟩
 have hb5:=qbt hb4 hb5'
 have m0:=(hb5'.cell (p:=⟨w.heap.size,0,none⟩) hsV).trans m0
 have m2:=(hb5'.cell (p:=⟨w.heap.size,2,none⟩) hsV).trans m2
 have hsV:=Nat.lt_of_lt_of_le hsV hb5'.size
 clear hb5' hb4
 go_wp2
 go_ret2
 have eW:A++([signW (op9 1)]++B)=A++signW 11::B:=by
  rfl
 have hln:=hY.len
 rw[eW]at hln
 unfold WEnd WRet
 rw[hln]
 rw[eW]at hY
 exact⟨⟨qY,cY,rfl,hY⟩,hb5,by omega,by omega⟩
theorem wo_add {f:Nat}(hP:POk f)(e:List Nd)(p:Option Addr)(c:Nat)(w:World)(k:Nat)(x:Nd)(s r:List Nd)(he:EArg w e p)(hx:e[k]? =some x)(hop:x.op=17)(p1:pastE f (e.drop (k+1))=some s)(p2:pastE f s=some r):
 Calls Tryz.prog 15 #[.slice p e.length c,.int .i64 (k:Int)] w (WEnd e k r (partW (wdE f) 4 (e.drop (k+1))++signW 17::partW (wdE f) 5 s) w):=by
 have hk:k<e.length:=(List.getElem?_eq_some_iff.1 hx).1
 have hex:e[k]=x:=by rw[List.getElem?_eq_getElem hk]at hx;exact Option.some.inj hx
 have hwf:=he.nl.wfs x (List.mem_of_getElem? hx)
 obtain⟨bq,oq,hpq,hbq,e0,e1,e2,e3,_⟩:=he.nl.at hk
 rw[hex]at e0 e1 e2 e3
 subst hpq
 have hle:=he.len
 have i1:(k:Int)<(e.length:Int):=by omega
 obtain⟨op,nn,ss,tt⟩:=x
 dsimp only at hop e0 e1 e2 e3 hwf ⊢
 subst hop
 have HL:=fun w=>level_any 17 w (by omega)
 rw[show lvO 17=4 from rfl]at HL
 obtain⟨A,hAA⟩:∃A,partW (wdE f) 4 (e.drop (k+1))=A:=⟨_,rfl⟩
 rw[hAA]
 obtain⟨nA,hnA⟩:∃n,A.length=n:=⟨_,rfl⟩
 have HPA:=fun w he=>part_at hP e (some ⟨bq,oq,none⟩) c w (k+1) _ s 4 A nA _ he rfl p1 hAA hnA rfl
 have hsA:=(nd_suffix p1).2
 obtain⟨B,hAB⟩:∃A,partW (wdE f) 5 s=A:=⟨_,rfl⟩
 rw[hAB]
 obtain⟨nB,hnB⟩:∃n,B.length=n:=⟨_,rfl⟩
 have hmB:e.drop (e.length-s.length)=s:=(nd_suffix p1).1
 have HPB:=fun w he=>part_at hP e (some ⟨bq,oq,none⟩) c w (e.length-s.length) _ r 5 B nB _ he hmB p2 hAB hnB rfl
 have hsB:=(nd_suffix (show pastE f (e.drop (e.length-s.length))=some r by rw[hmB];exact p2)).2
 have hbV:Below w.heap.size w (w.alloc (.cells #[.int .i64 17,.int .i64 nn,.string ss,.string tt] 29)):=(Below.refl _ _).alloc (Nat.le_refl _) _
 have hsV:w.heap.size<(w.alloc (.cells #[.int .i64 17,.int .i64 nn,.string ss,.string tt] 29)).heap.size:=by simp
 have m0:(w.alloc (.cells #[.int .i64 17,.int .i64 nn,.string ss,.string tt] 29)).cell? ⟨w.heap.size,0,none⟩=some (.int .i64 17):=by simp
 have m2:(w.alloc (.cells #[.int .i64 17,.int .i64 nn,.string ss,.string tt] 29)).cell? ⟨w.heap.size,2,none⟩=some (.string ss):=by simp
 have HE:Hid (∀w',Below w.heap.size w w'→EArg w' e (some ⟨bq,oq,none⟩)):=fun w' hb=>he.up hb
 clear hAA hnA hAB hnB he hx hex hP
 go_enter Tryz.func15,Tryz.ntmps15
 go_wp2_with (go_at_call 23;refine(HL _).mono ?_;rintro en w' ⟨rfl,rfl⟩)
 generalize hV:w.alloc (.cells #[.int .i64 17,.int .i64 nn,.string ss,.string tt] 29)=V at *
 clear hV e0 e1 e2 e3
 refine(HPA _ (HE.out _ hbV)).mono ?_
 rintro en w1 ⟨⟨qA,cA,rfl,hA⟩,hb1',lA,uA⟩
 clear HPA
 have hb1:=qbt hbV hb1'
 have m0:=(hb1'.cell (p:=⟨w.heap.size,0,none⟩) hsV).trans m0
 have m2:=(hb1'.cell (p:=⟨w.heap.size,2,none⟩) hsV).trans m2
 have hsV:=Nat.lt_of_lt_of_le hsV hb1'.size
 clear hb1' hbV
 go_wp2_with fail
 refine(HPB _ (HE.out _ hb1)).mono ?_
 rintro en w2 ⟨⟨qB,cB,rfl,hB⟩,hb2',lB,uB⟩
 clear HPB
 have hA:=hA.up hb2'
 have hb2:=qbt hb1 hb2'
 have m0:=(hb2'.cell (p:=⟨w.heap.size,0,none⟩) hsV).trans m0
 have m2:=(hb2'.cell (p:=⟨w.heap.size,2,none⟩) hsV).trans m2
 have hsV:=Nat.lt_of_lt_of_le hsV hb2'.size
 clear hb2' hb1
 go_wp2_with fail
 refine(signOf_any 6 (by omega) _).mono ?_
 rintro en w3 ⟨⟨qS,cS,rfl,hS⟩,hb3'⟩
 have hA:=hA.up hb3'
 have hB:=hB.up hb3'
 have hb3:=qbt hb2 hb3'
 have m0:=(hb3'.cell (p:=⟨w.heap.size,0,none⟩) hsV).trans m0
 have m2:=(hb3'.cell (p:=⟨w.heap.size,2,none⟩) hsV).trans m2
 have hsV:=Nat.lt_of_lt_of_le hsV hb3'.size
 clear hb3' hb2
 go_wp2_with fail
 refine(glue hS hB (by omega)).mono ?_
 rintro en w4 ⟨⟨qX,cX,rfl,hX⟩,hb4'⟩
 have hA:=hA.up hb4'
 have hb4:=qbt hb3 hb4'
 have m0:=(hb4'.cell (p:=⟨w.heap.size,0,none⟩) hsV).trans m0
 have m2:=(hb4'.cell (p:=⟨w.heap.size,2,none⟩) hsV).trans m2
 have hsV:=Nat.lt_of_lt_of_le hsV hb4'.size
 clear hb4' hb3
 go_wp2_with fail
 refine(glue hA hX (by omega)).mono ?_
 rintro en w5 ⟨⟨qY,cY,rfl,hY⟩,hb5'⟩
 have hb5:=qbt hb4 hb5'
 have m0:=(hb5'.cell (p:=⟨w.heap.size,0,none⟩) hsV).trans m0
 have m2:=(hb5'.cell (p:=⟨w.heap.size,2,none⟩) hsV).trans m2
 have hsV:=Nat.lt_of_lt_of_le hsV hb5'.size
 clear hb5' hb4
 go_wp2
 go_ret2
 have eW:A++([signW (op9 6)]++B)=A++signW 17::B:=by
  rfl
 have hln:=hY.len
 rw[eW]at hln
 unfold WEnd WRet
 rw[hln]
 rw[eW]at hY
 exact⟨⟨qY,cY,rfl,hY⟩,hb5,by omega,by omega⟩
theorem wo_sub {f:Nat}(hP:POk f)(e:List Nd)(p:Option Addr)(c:Nat)(w:World)(k:Nat)(x:Nd)(s r:List Nd)(he:EArg w e p)(hx:e[k]? =some x)(hop:x.op=18)(p1:pastE f (e.drop (k+1))=some s)(p2:pastE f s=some r):
 Calls Tryz.prog 15 #[.slice p e.length c,.int .i64 (k:Int)] w (WEnd e k r (partW (wdE f) 4 (e.drop (k+1))++signW 18::partW (wdE f) 5 s) w):=by
 have hk:k<e.length:=(List.getElem?_eq_some_iff.1 hx).1
 have hex:e[k]=x:=by rw[List.getElem?_eq_getElem hk]at hx;exact Option.some.inj hx
 have hwf:=he.nl.wfs x (List.mem_of_getElem? hx)
 obtain⟨bq,oq,hpq,hbq,e0,e1,e2,e3,_⟩:=he.nl.at hk
 rw[hex]at e0 e1 e2 e3
 subst hpq
 have hle:=he.len
 have i1:(k:Int)<(e.length:Int):=by omega
 obtain⟨op,nn,ss,tt⟩:=x
 dsimp only at hop e0 e1 e2 e3 hwf ⊢
 subst hop
 have HL:=fun w=>level_any 18 w (by omega)
 rw[show lvO 18=4 from rfl]at HL
 obtain⟨A,hAA⟩:∃A,partW (wdE f) 4 (e.drop (k+1))=A:=⟨_,rfl⟩
 rw[hAA]
 obtain⟨nA,hnA⟩:∃n,A.length=n:=⟨_,rfl⟩
 have HPA:=fun w he=>part_at hP e (some ⟨bq,oq,none⟩) c w (k+1) _ s 4 A nA _ he rfl p1 hAA hnA rfl
 have hsA:=(nd_suffix p1).2
 obtain⟨B,hAB⟩:∃A,partW (wdE f) 5 s=A:=⟨_,rfl⟩
 rw[hAB]
 obtain⟨nB,hnB⟩:∃n,B.length=n:=⟨_,rfl⟩
 have hmB:e.drop (e.length-s.length)=s:=(nd_suffix p1).1
 have HPB:=fun w he=>part_at hP e (some ⟨bq,oq,none⟩) c w (e.length-s.length) _ r 5 B nB _ he hmB p2 hAB hnB rfl
 have hsB:=(nd_suffix (show pastE f (e.drop (e.length-s.length))=some r by rw[hmB];exact p2)).2
 have hbV:Below w.heap.size w (w.alloc (.cells #[.int .i64 18,.int .i64 nn,.string ss,.string tt] 29)):=(Below.refl _ _).alloc (Nat.le_refl _) _
 have hsV:w.heap.size<(w.alloc (.cells #[.int .i64 18,.int .i64 nn,.string ss,.string tt] 29)).heap.size:=by simp
 have m0:(w.alloc (.cells #[.int .i64 18,.int .i64 nn,.string ss,.string tt] 29)).cell? ⟨w.heap.size,0,none⟩=some (.int .i64 18):=by simp
 have m2:(w.alloc (.cells #[.int .i64 18,.int .i64 nn,.string ss,.string tt] 29)).cell? ⟨w.heap.size,2,none⟩=some (.string ss):=by simp
 have HE:Hid (∀w',Below w.heap.size w w'→EArg w' e (some ⟨bq,oq,none⟩)):=fun w' hb=>he.up hb
 clear hAA hnA hAB hnB he hx hex hP
 go_enter Tryz.func15,Tryz.ntmps15
 go_wp2_with (go_at_call 23;refine(HL _).mono ?_;rintro en w' ⟨rfl,rfl⟩)
 generalize hV:w.alloc (.cells #[.int .i64 18,.int .i64 nn,.string ss,.string tt] 29)=V at *
 clear hV e0 e1 e2 e3
 refine(HPA _ (HE.out _ hbV)).mono ?_
 rintro en w1 ⟨⟨qA,cA,rfl,hA⟩,hb1',lA,uA⟩
 clear HPA
 have hb1:=qbt hbV hb1'
 have m0:=(hb1'.cell (p:=⟨w.heap.size,0,none⟩) hsV).trans m0
 have m2:=(hb1'.cell (p:=⟨w.heap.size,2,none⟩) hsV).trans m2
 have hsV:=Nat.lt_of_lt_of_le hsV hb1'.size
 clear hb1' hbV
 go_wp2_with fail
 refine(HPB _ (HE.out _ hb1)).mono ?_
 rintro en w2 ⟨⟨qB,cB,rfl,hB⟩,hb2',lB,uB⟩
 clear HPB
 have hA:=hA.up hb2'
 have hb2:=qbt hb1 hb2'
 have m0:=(hb2'.cell (p:=⟨w.heap.size,0,none⟩) hsV).trans m0
 have m2:=(hb2'.cell (p:=⟨w.heap.size,2,none⟩) hsV).trans m2
 have hsV:=Nat.lt_of_lt_of_le hsV hb2'.size
 clear hb2' hb1
 go_wp2_with fail
 refine(signOf_any 7 (by omega) _).mono ?_
 rintro en w3 ⟨⟨qS,cS,rfl,hS⟩,hb3'⟩
 have hA:=hA.up hb3'
 have hB:=hB.up hb3'
 have hb3:=qbt hb2 hb3'
 have m0:=(hb3'.cell (p:=⟨w.heap.size,0,none⟩) hsV).trans m0
 have m2:=(hb3'.cell (p:=⟨w.heap.size,2,none⟩) hsV).trans m2
 have hsV:=Nat.lt_of_lt_of_le hsV hb3'.size
 clear hb3' hb2
 go_wp2_with fail
 refine(glue hS hB (by omega)).mono ?_
 rintro en w4 ⟨⟨qX,cX,rfl,hX⟩,hb4'⟩
 have hA:=hA.up hb4'
 have hb4:=qbt hb3 hb4'
 have m0:=(hb4'.cell (p:=⟨w.heap.size,0,none⟩) hsV).trans m0
 have m2:=(hb4'.cell (p:=⟨w.heap.size,2,none⟩) hsV).trans m2
 have hsV:=Nat.lt_of_lt_of_le hsV hb4'.size
 clear hb4' hb3
 go_wp2_with fail
 refine(glue hA hX (by omega)).mono ?_
 rintro en w5 ⟨⟨qY,cY,rfl,hY⟩,hb5'⟩
 have hb5:=qbt hb4 hb5'
 have m0:=(hb5'.cell (p:=⟨w.heap.size,0,none⟩) hsV).trans m0
 have m2:=(hb5'.cell (p:=⟨w.heap.size,2,none⟩) hsV).trans m2
 have hsV:=Nat.lt_of_lt_of_le hsV hb5'.size
 clear hb5' hb4
 go_wp2
 go_ret2
 have eW:A++([signW (op9 7)]++B)=A++signW 18::B:=by
  rfl
 have hln:=hY.len
 rw[eW]at hln
 unfold WEnd WRet
 rw[hln]
 rw[eW]at hY
 exact⟨⟨qY,cY,rfl,hY⟩,hb5,by omega,by omega⟩
theorem wo_mul {f:Nat}(hP:POk f)(e:List Nd)(p:Option Addr)(c:Nat)(w:World)(k:Nat)(x:Nd)(s r:List Nd)(he:EArg w e p)(hx:e[k]? =some x)(hop:x.op=19)(p1:pastE f (e.drop (k+1))=some s)(p2:pastE f s=some r):
 Calls Tryz.prog 15 #[.slice p e.length c,.int .i64 (k:Int)] w (WEnd e k r (partW (wdE f) 5 (e.drop (k+1))++signW 19::partW (wdE f) 6 s) w):=by
 have hk:k<e.length:=(List.getElem?_eq_some_iff.1 hx).1
 have hex:e[k]=x:=by rw[List.getElem?_eq_getElem hk]at hx;exact Option.some.inj hx
 have hwf:=he.nl.wfs x (List.mem_of_getElem? hx)
 obtain⟨bq,oq,hpq,hbq,e0,e1,e2,e3,_⟩:=he.nl.at hk
 rw[hex]at e0 e1 e2 e3
 subst hpq
 have hle:=he.len
 have i1:(k:Int)<(e.length:Int):=by omega
 obtain⟨op,nn,ss,tt⟩:=x
 dsimp only at hop e0 e1 e2 e3 hwf ⊢
 subst hop
 have HL:=fun w=>level_any 19 w (by omega)
 rw[show lvO 19=5 from rfl]at HL
 obtain⟨A,hAA⟩:∃A,partW (wdE f) 5 (e.drop (k+1))=A:=⟨_,rfl⟩
 rw[hAA]
 obtain⟨nA,hnA⟩:∃n,A.length=n:=⟨_,rfl⟩
 have HPA:=fun w he=>part_at hP e (some ⟨bq,oq,none⟩) c w (k+1) _ s 5 A nA _ he rfl p1 hAA hnA rfl
 have hsA:=(nd_suffix p1).2
 obtain⟨B,hAB⟩:∃A,partW (wdE f) 6 s=A:=⟨_,rfl⟩
 rw[hAB]
 obtain⟨nB,hnB⟩:∃n,B.length=n:=⟨_,rfl⟩
 have hmB:e.drop (e.length-s.length)=s:=(nd_suffix p1).1
 have HPB:=fun w he=>part_at hP e (some ⟨bq,oq,none⟩) c w (e.length-s.length) _ r 6 B nB _ he hmB p2 hAB hnB rfl
 have hsB:=(nd_suffix (show pastE f (e.drop (e.length-s.length))=some r by rw[hmB];exact p2)).2
 have hbV:Below w.heap.size w (w.alloc (.cells #[.int .i64 19,.int .i64 nn,.string ss,.string tt] 29)):=(Below.refl _ _).alloc (Nat.le_refl _) _
 have hsV:w.heap.size<(w.alloc (.cells #[.int .i64 19,.int .i64 nn,.string ss,.string tt] 29)).heap.size:=by simp
 have m0:(w.alloc (.cells #[.int .i64 19,.int .i64 nn,.string ss,.string tt] 29)).cell? ⟨w.heap.size,0,none⟩=some (.int .i64 19):=by simp
 have m2:(w.alloc (.cells #[.int .i64 19,.int .i64 nn,.string ss,.string tt] 29)).cell? ⟨w.heap.size,2,none⟩=some (.string ss):=by simp
 have HE:Hid (∀w',Below w.heap.size w w'→EArg w' e (some ⟨bq,oq,none⟩)):=fun w' hb=>he.up hb
 clear hAA hnA hAB hnB he hx hex hP
 go_enter Tryz.func15,Tryz.ntmps15
 go_wp2_with (go_at_call 23;refine(HL _).mono ?_;rintro en w' ⟨rfl,rfl⟩)
 generalize hV:w.alloc (.cells #[.int .i64 19,.int .i64 nn,.string ss,.string tt] 29)=V at *
 clear hV e0 e1 e2 e3
 refine(HPA _ (HE.out _ hbV)).mono ?_
 rintro en w1 ⟨⟨qA,cA,rfl,hA⟩,hb1',lA,uA⟩
 clear HPA
 have hb1:=qbt hbV hb1'
 have m0:=(hb1'.cell (p:=⟨w.heap.size,0,none⟩) hsV).trans m0
 have m2:=(hb1'.cell (p:=⟨w.heap.size,2,none⟩) hsV).trans m2
 have hsV:=Nat.lt_of_lt_of_le hsV hb1'.size
 clear hb1' hbV
 go_wp2_with fail
 refine(HPB _ (HE.out _ hb1)).mono ?_
 rintro en w2 ⟨⟨qB,cB,rfl,hB⟩,hb2',lB,uB⟩
 clear HPB
 have hA:=hA.up hb2'
 have hb2:=qbt hb1 hb2'
 have m0:=(hb2'.cell (p:=⟨w.heap.size,0,none⟩) hsV).trans m0
 have m2:=(hb2'.cell (p:=⟨w.heap.size,2,none⟩) hsV).trans m2
 have hsV:=Nat.lt_of_lt_of_le hsV hb2'.size
 clear hb2' hb1
 go_wp2_with fail
 refine(signOf_any 8 (by omega) _).mono ?_
 rintro en w3 ⟨⟨qS,cS,rfl,hS⟩,hb3'⟩
 have hA:=hA.up hb3'
 have hB:=hB.up hb3'
 have hb3:=qbt hb2 hb3'
 have m0:=(hb3'.cell (p:=⟨w.heap.size,0,none⟩) hsV).trans m0
 have m2:=(hb3'.cell (p:=⟨w.heap.size,2,none⟩) hsV).trans m2
 have hsV:=Nat.lt_of_lt_of_le hsV hb3'.size
 clear hb3' hb2
 go_wp2_with fail
 refine(glue hS hB (by omega)).mono ?_
 rintro en w4 ⟨⟨qX,cX,rfl,hX⟩,hb4'⟩
 have hA:=hA.up hb4'
 have hb4:=qbt hb3 hb4'
 have m0:=(hb4'.cell (p:=⟨w.heap.size,0,none⟩) hsV).trans m0
 have m2:=(hb4'.cell (p:=⟨w.heap.size,2,none⟩) hsV).trans m2
 have hsV:=Nat.lt_of_lt_of_le hsV hb4'.size
 clear hb4' hb3
 go_wp2_with fail
 refine(glue hA hX (by omega)).mono ?_
 rintro en w5 ⟨⟨qY,cY,rfl,hY⟩,hb5'⟩
 have hb5:=qbt hb4 hb5'
 have m0:=(hb5'.cell (p:=⟨w.heap.size,0,none⟩) hsV).trans m0
 have m2:=(hb5'.cell (p:=⟨w.heap.size,2,none⟩) hsV).trans m2
 have hsV:=Nat.lt_of_lt_of_le hsV hb5'.size
 clear hb5' hb4
 go_wp2
 go_ret2
 have eW:A++([signW (op9 8)]++B)=A++signW 19::B:=by
  rfl
 have hln:=hY.len
 rw[eW]at hln
 unfold WEnd WRet
 rw[hln]
 rw[eW]at hY
 exact⟨⟨qY,cY,rfl,hY⟩,hb5,by omega,by omega⟩
theorem wo_eq {f:Nat}(hP:POk f)(e:List Nd)(p:Option Addr)(c:Nat)(w:World)(k:Nat)(x:Nd)(s r:List Nd)(he:EArg w e p)(hx:e[k]? =some x)(hop:x.op=14)(p1:pastE f (e.drop (k+1))=some s)(p2:pastE f s=some r):
 Calls Tryz.prog 15 #[.slice p e.length c,.int .i64 (k:Int)] w (WEnd e k r (partW (wdE f) 4 (e.drop (k+1))++signW 14::partW (wdE f) 4 s) w):=by
 have hk:k<e.length:=(List.getElem?_eq_some_iff.1 hx).1
 have hex:e[k]=x:=by rw[List.getElem?_eq_getElem hk]at hx;exact Option.some.inj hx
 have hwf:=he.nl.wfs x (List.mem_of_getElem? hx)
 obtain⟨bq,oq,hpq,hbq,e0,e1,e2,e3,_⟩:=he.nl.at hk
 rw[hex]at e0 e1 e2 e3
 subst hpq
 have hle:=he.len
 have i1:(k:Int)<(e.length:Int):=by omega
 obtain⟨op,nn,ss,tt⟩:=x
 dsimp only at hop e0 e1 e2 e3 hwf ⊢
 subst hop
 have HL:=fun w=>level_any 14 w (by omega)
 rw[show lvO 14=3 from rfl]at HL
 obtain⟨A,hAA⟩:∃A,partW (wdE f) 4 (e.drop (k+1))=A:=⟨_,rfl⟩
 rw[hAA]
 obtain⟨nA,hnA⟩:∃n,A.length=n:=⟨_,rfl⟩
 have HPA:=fun w he=>part_at hP e (some ⟨bq,oq,none⟩) c w (k+1) _ s 4 A nA _ he rfl p1 hAA hnA rfl
 have hsA:=(nd_suffix p1).2
 obtain⟨B,hAB⟩:∃A,partW (wdE f) 4 s=A:=⟨_,rfl⟩
 rw[hAB]
 obtain⟨nB,hnB⟩:∃n,B.length=n:=⟨_,rfl⟩
 have hmB:e.drop (e.length-s.length)=s:=(nd_suffix p1).1
 have HPB:=fun w he=>part_at hP e (some ⟨bq,oq,none⟩) c w (e.length-s.length) _ r 4 B nB _ he hmB p2 hAB hnB rfl
 have hsB:=(nd_suffix (show pastE f (e.drop (e.length-s.length))=some r by rw[hmB];exact p2)).2
 have hbV:Below w.heap.size w (w.alloc (.cells #[.int .i64 14,.int .i64 nn,.string ss,.string tt] 29)):=(Below.refl _ _).alloc (Nat.le_refl _) _
 have hsV:w.heap.size<(w.alloc (.cells #[.int .i64 14,.int .i64 nn,.string ss,.string tt] 29)).heap.size:=by simp
 have m0:(w.alloc (.cells #[.int .i64 14,.int .i64 nn,.string ss,.string tt] 29)).cell? ⟨w.heap.size,0,none⟩=some (.int .i64 14):=by simp
 have m2:(w.alloc (.cells #[.int .i64 14,.int .i64 nn,.string ss,.string tt] 29)).cell? ⟨w.heap.size,2,none⟩=some (.string ss):=by simp
 have HE:Hid (∀w',Below w.heap.size w w'→EArg w' e (some ⟨bq,oq,none⟩)):=fun w' hb=>he.up hb
 clear hAA hnA hAB hnB he hx hex hP
 go_enter Tryz.func15,Tryz.ntmps15
 go_wp2_with (go_at_call 23;refine(HL _).mono ?_;rintro en w' ⟨rfl,rfl⟩)
 generalize hV:w.alloc (.cells #[.int .i64 14,.int .i64 nn,.string ss,.string tt] 29)=V at *
 clear hV e0 e1 e2 e3
 refine(HPA _ (HE.out _ hbV)).mono ?_
 rintro en w1 ⟨⟨qA,cA,rfl,hA⟩,hb1',lA,uA⟩
 clear HPA
 have hb1:=qbt hbV hb1'
 have m0:=(hb1'.cell (p:=⟨w.heap.size,0,none⟩) hsV).trans m0
 have m2:=(hb1'.cell (p:=⟨w.heap.size,2,none⟩) hsV).trans m2
 have hsV:=Nat.lt_of_lt_of_le hsV hb1'.size
 clear hb1' hbV
 go_wp2_with fail
 refine(HPB _ (HE.out _ hb1)).mono ?_
 rintro en w2 ⟨⟨qB,cB,rfl,hB⟩,hb2',lB,uB⟩
 clear HPB
 have hA:=hA.up hb2'
 have hb2:=qbt hb1 hb2'
 have m0:=(hb2'.cell (p:=⟨w.heap.size,0,none⟩) hsV).trans m0
 have m2:=(hb2'.cell (p:=⟨w.heap.size,2,none⟩) hsV).trans m2
 have hsV:=Nat.lt_of_lt_of_le hsV hb2'.size
 clear hb2' hb1
 go_wp2_with fail
 refine(signOf_any 2 (by omega) _).mono ?_
 rintro en w3 ⟨⟨qS,cS,rfl,hS⟩,hb3'⟩
 have hA:=hA.up hb3'
 have hB:=hB.up hb3'
 have hb3:=qbt hb2 hb3'
 have m0:=(hb3'.cell (p:=⟨w.heap.size,0,none⟩) hsV).trans m0
 have m2:=(hb3'.cell (p:=⟨w.heap.size,2,none⟩) hsV).trans m2
 have hsV:=Nat.lt_of_lt_of_le hsV hb3'.size
 clear hb3' hb2
 go_wp2_with fail
 refine(glue hS hB (by omega)).mono ?_
 rintro en w4 ⟨⟨qX,cX,rfl,hX⟩,hb4'⟩
 have hA:=hA.up hb4'
 have hb4:=qbt hb3 hb4'
 have m0:=(hb4'.cell (p:=⟨w.heap.size,0,none⟩) hsV).trans m0
 have m2:=(hb4'.cell (p:=⟨w.heap.size,2,none⟩) hsV).trans m2
 have hsV:=Nat.lt_of_lt_of_le hsV hb4'.size
 clear hb4' hb3
 go_wp2_with fail
 refine(glue hA hX (by omega)).mono ?_
 rintro en w5 ⟨⟨qY,cY,rfl,hY⟩,hb5'⟩
 have hb5:=qbt hb4 hb5'
 have m0:=(hb5'.cell (p:=⟨w.heap.size,0,none⟩) hsV).trans m0
 have m2:=(hb5'.cell (p:=⟨w.heap.size,2,none⟩) hsV).trans m2
 have hsV:=Nat.lt_of_lt_of_le hsV hb5'.size
 clear hb5' hb4
 go_wp2
 go_ret2
 have eW:A++([signW (op9 2)]++B)=A++signW 14::B:=by
  rfl
 have hln:=hY.len
 rw[eW]at hln
 unfold WEnd WRet
 rw[hln]
 rw[eW]at hY
 exact⟨⟨qY,cY,rfl,hY⟩,hb5,by omega,by omega⟩
theorem wo_lt {f:Nat}(hP:POk f)(e:List Nd)(p:Option Addr)(c:Nat)(w:World)(k:Nat)(x:Nd)(s r:List Nd)(he:EArg w e p)(hx:e[k]? =some x)(hop:x.op=15)(p1:pastE f (e.drop (k+1))=some s)(p2:pastE f s=some r):
 Calls Tryz.prog 15 #[.slice p e.length c,.int .i64 (k:Int)] w (WEnd e k r (partW (wdE f) 4 (e.drop (k+1))++signW 15::partW (wdE f) 4 s) w):=by
 have hk:k<e.length:=(List.getElem?_eq_some_iff.1 hx).1
 have hex:e[k]=x:=by rw[List.getElem?_eq_getElem hk]at hx;exact Option.some.inj hx
 have hwf:=he.nl.wfs x (List.mem_of_getElem? hx)
 obtain⟨bq,oq,hpq,hbq,e0,e1,e2,e3,_⟩:=he.nl.at hk
 rw[hex]at e0 e1 e2 e3
 subst hpq
 have hle:=he.len
 have i1:(k:Int)<(e.length:Int):=by omega
 obtain⟨op,nn,ss,tt⟩:=x
 dsimp only at hop e0 e1 e2 e3 hwf ⊢
 subst hop
 have HL:=fun w=>level_any 15 w (by omega)
 rw[show lvO 15=3 from rfl]at HL
 obtain⟨A,hAA⟩:∃A,partW (wdE f) 4 (e.drop (k+1))=A:=⟨_,rfl⟩
 rw[hAA]
 obtain⟨nA,hnA⟩:∃n,A.length=n:=⟨_,rfl⟩
 have HPA:=fun w he=>part_at hP e (some ⟨bq,oq,none⟩) c w (k+1) _ s 4 A nA _ he rfl p1 hAA hnA rfl
 have hsA:=(nd_suffix p1).2
 obtain⟨B,hAB⟩:∃A,partW (wdE f) 4 s=A:=⟨_,rfl⟩
 rw[hAB]
 obtain⟨nB,hnB⟩:∃n,B.length=n:=⟨_,rfl⟩
 have hmB:e.drop (e.length-s.length)=s:=(nd_suffix p1).1
 have HPB:=fun w he=>part_at hP e (some ⟨bq,oq,none⟩) c w (e.length-s.length) _ r 4 B nB _ he hmB p2 hAB hnB rfl
 have hsB:=(nd_suffix (show pastE f (e.drop (e.length-s.length))=some r by rw[hmB];exact p2)).2
 have hbV:Below w.heap.size w (w.alloc (.cells #[.int .i64 15,.int .i64 nn,.string ss,.string tt] 29)):=(Below.refl _ _).alloc (Nat.le_refl _) _
 have hsV:w.heap.size<(w.alloc (.cells #[.int .i64 15,.int .i64 nn,.string ss,.string tt] 29)).heap.size:=by simp
 have m0:(w.alloc (.cells #[.int .i64 15,.int .i64 nn,.string ss,.string tt] 29)).cell? ⟨w.heap.size,0,none⟩=some (.int .i64 15):=by simp
 have m2:(w.alloc (.cells #[.int .i64 15,.int .i64 nn,.string ss,.string tt] 29)).cell? ⟨w.heap.size,2,none⟩=some (.string ss):=by simp
 have HE:Hid (∀w',Below w.heap.size w w'→EArg w' e (some ⟨bq,oq,none⟩)):=fun w' hb=>he.up hb
 clear hAA hnA hAB hnB he hx hex hP
 go_enter Tryz.func15,Tryz.ntmps15
 go_wp2_with (go_at_call 23;refine(HL _).mono ?_;rintro en w' ⟨rfl,rfl⟩)
 generalize hV:w.alloc (.cells #[.int .i64 15,.int .i64 nn,.string ss,.string tt] 29)=V at *
 clear hV e0 e1 e2 e3
 refine(HPA _ (HE.out _ hbV)).mono ?_
 rintro en w1 ⟨⟨qA,cA,rfl,hA⟩,hb1',lA,uA⟩
 clear HPA
 have hb1:=qbt hbV hb1'
 have m0:=(hb1'.cell (p:=⟨w.heap.size,0,none⟩) hsV).trans m0
 have m2:=(hb1'.cell (p:=⟨w.heap.size,2,none⟩) hsV).trans m2
 have hsV:=Nat.lt_of_lt_of_le hsV hb1'.size
 clear hb1' hbV
 go_wp2_with fail
 refine(HPB _ (HE.out _ hb1)).mono ?_
 rintro en w2 ⟨⟨qB,cB,rfl,hB⟩,hb2',lB,uB⟩
 clear HPB
 have hA:=hA.up hb2'
 have hb2:=qbt hb1 hb2'
 have m0:=(hb2'.cell (p:=⟨w.heap.size,0,none⟩) hsV).trans m0
 have m2:=(hb2'.cell (p:=⟨w.heap.size,2,none⟩) hsV).trans m2
 have hsV:=Nat.lt_of_lt_of_le hsV hb2'.size
 clear hb2' hb1
 go_wp2_with fail
 refine(signOf_any 3 (by omega) _).mono ?_
 rintro en w3 ⟨⟨qS,cS,rfl,hS⟩,hb3'⟩
 have hA:=hA.up hb3'
 have hB:=hB.up hb3'
 have hb3:=qbt hb2 hb3'
 have m0:=(hb3'.cell (p:=⟨w.heap.size,0,none⟩) hsV).trans m0
 have m2:=(hb3'.cell (p:=⟨w.heap.size,2,none⟩) hsV).trans m2
 have hsV:=Nat.lt_of_lt_of_le hsV hb3'.size
 clear hb3' hb2
 go_wp2_with fail
 refine(glue hS hB (by omega)).mono ?_
 rintro en w4 ⟨⟨qX,cX,rfl,hX⟩,hb4'⟩
 have hA:=hA.up hb4'
 have hb4:=qbt hb3 hb4'
 have m0:=(hb4'.cell (p:=⟨w.heap.size,0,none⟩) hsV).trans m0
 have m2:=(hb4'.cell (p:=⟨w.heap.size,2,none⟩) hsV).trans m2
 have hsV:=Nat.lt_of_lt_of_le hsV hb4'.size
 clear hb4' hb3
 go_wp2_with fail
 refine(glue hA hX (by omega)).mono ?_
 rintro en w5 ⟨⟨qY,cY,rfl,hY⟩,hb5'⟩
 have hb5:=qbt hb4 hb5'
 have m0:=(hb5'.cell (p:=⟨w.heap.size,0,none⟩) hsV).trans m0
 have m2:=(hb5'.cell (p:=⟨w.heap.size,2,none⟩) hsV).trans m2
 have hsV:=Nat.lt_of_lt_of_le hsV hb5'.size
 clear hb5' hb4
 go_wp2
 go_ret2
 have eW:A++([signW (op9 3)]++B)=A++signW 15::B:=by
  rfl
 have hln:=hY.len
 rw[eW]at hln
 unfold WEnd WRet
 rw[hln]
 rw[eW]at hY
 exact⟨⟨qY,cY,rfl,hY⟩,hb5,by omega,by omega⟩
theorem wo_le {f:Nat}(hP:POk f)(e:List Nd)(p:Option Addr)(c:Nat)(w:World)(k:Nat)(x:Nd)(s r:List Nd)(he:EArg w e p)(hx:e[k]? =some x)(hop:x.op=16)(p1:pastE f (e.drop (k+1))=some s)(p2:pastE f s=some r):
 Calls Tryz.prog 15 #[.slice p e.length c,.int .i64 (k:Int)] w (WEnd e k r (partW (wdE f) 4 (e.drop (k+1))++signW 16::partW (wdE f) 4 s) w):=by
 have hk:k<e.length:=(List.getElem?_eq_some_iff.1 hx).1
 have hex:e[k]=x:=by rw[List.getElem?_eq_getElem hk]at hx;exact Option.some.inj hx
 have hwf:=he.nl.wfs x (List.mem_of_getElem? hx)
 obtain⟨bq,oq,hpq,hbq,e0,e1,e2,e3,_⟩:=he.nl.at hk
 rw[hex]at e0 e1 e2 e3
 subst hpq
 have hle:=he.len
 have i1:(k:Int)<(e.length:Int):=by omega
 obtain⟨op,nn,ss,tt⟩:=x
 dsimp only at hop e0 e1 e2 e3 hwf ⊢
 subst hop
 have HL:=fun w=>level_any 16 w (by omega)
 rw[show lvO 16=3 from rfl]at HL
 obtain⟨A,hAA⟩:∃A,partW (wdE f) 4 (e.drop (k+1))=A:=⟨_,rfl⟩
 rw[hAA]
 obtain⟨nA,hnA⟩:∃n,A.length=n:=⟨_,rfl⟩
 have HPA:=fun w he=>part_at hP e (some ⟨bq,oq,none⟩) c w (k+1) _ s 4 A nA _ he rfl p1 hAA hnA rfl
 have hsA:=(nd_suffix p1).2
 obtain⟨B,hAB⟩:∃A,partW (wdE f) 4 s=A:=⟨_,rfl⟩
 rw[hAB]
 obtain⟨nB,hnB⟩:∃n,B.length=n:=⟨_,rfl⟩
 have hmB:e.drop (e.length-s.length)=s:=(nd_suffix p1).1
 have HPB:=fun w he=>part_at hP e (some ⟨bq,oq,none⟩) c w (e.length-s.length) _ r 4 B nB _ he hmB p2 hAB hnB rfl
 have hsB:=(nd_suffix (show pastE f (e.drop (e.length-s.length))=some r by rw[hmB];exact p2)).2
 have hbV:Below w.heap.size w (w.alloc (.cells #[.int .i64 16,.int .i64 nn,.string ss,.string tt] 29)):=(Below.refl _ _).alloc (Nat.le_refl _) _
 have hsV:w.heap.size<(w.alloc (.cells #[.int .i64 16,.int .i64 nn,.string ss,.string tt] 29)).heap.size:=by simp
 have m0:(w.alloc (.cells #[.int .i64 16,.int .i64 nn,.string ss,.string tt] 29)).cell? ⟨w.heap.size,0,none⟩=some (.int .i64 16):=by simp
 have m2:(w.alloc (.cells #[.int .i64 16,.int .i64 nn,.string ss,.string tt] 29)).cell? ⟨w.heap.size,2,none⟩=some (.string ss):=by simp
 have HE:Hid (∀w',Below w.heap.size w w'→EArg w' e (some ⟨bq,oq,none⟩)):=fun w' hb=>he.up hb
 clear hAA hnA hAB hnB he hx hex hP
 go_enter Tryz.func15,Tryz.ntmps15
 go_wp2_with (go_at_call 23;refine(HL _).mono ?_;rintro en w' ⟨rfl,rfl⟩)
 generalize hV:w.alloc (.cells #[.int .i64 16,.int .i64 nn,.string ss,.string tt] 29)=V at *
 clear hV e0 e1 e2 e3
 refine(HPA _ (HE.out _ hbV)).mono ?_
 rintro en w1 ⟨⟨qA,cA,rfl,hA⟩,hb1',lA,uA⟩
 clear HPA
 have hb1:=qbt hbV hb1'
 have m0:=(hb1'.cell (p:=⟨w.heap.size,0,none⟩) hsV).trans m0
 have m2:=(hb1'.cell (p:=⟨w.heap.size,2,none⟩) hsV).trans m2
 have hsV:=Nat.lt_of_lt_of_le hsV hb1'.size
 clear hb1' hbV
 go_wp2_with fail
 refine(HPB _ (HE.out _ hb1)).mono ?_
 rintro en w2 ⟨⟨qB,cB,rfl,hB⟩,hb2',lB,uB⟩
 clear HPB
 have hA:=hA.up hb2'
 have hb2:=qbt hb1 hb2'
 have m0:=(hb2'.cell (p:=⟨w.heap.size,0,none⟩) hsV).trans m0
 have m2:=(hb2'.cell (p:=⟨w.heap.size,2,none⟩) hsV).trans m2
 have hsV:=Nat.lt_of_lt_of_le hsV hb2'.size
 clear hb2' hb1
 go_wp2_with fail
 refine(signOf_any 4 (by omega) _).mono ?_
 rintro en w3 ⟨⟨qS,cS,rfl,hS⟩,hb3'⟩
 have hA:=hA.up hb3'
 have hB:=hB.up hb3'
 have hb3:=qbt hb2 hb3'
 have m0:=(hb3'.cell (p:=⟨w.heap.size,0,none⟩) hsV).trans m0
 have m2:=(hb3'.cell (p:=⟨w.heap.size,2,none⟩) hsV).trans m2
 have hsV:=Nat.lt_of_lt_of_le hsV hb3'.size
 clear hb3' hb2
 go_wp2_with fail
 refine(glue hS hB (by omega)).mono ?_
 rintro en w4 ⟨⟨qX,cX,rfl,hX⟩,hb4'⟩
 have hA:=hA.up hb4'
 have hb4:=qbt hb3 hb4'
 have m0:=(hb4'.cell (p:=⟨w.heap.size,0,none⟩) hsV).trans m0
 have m2:=(hb4'.cell (p:=⟨w.heap.size,2,none⟩) hsV).trans m2
 have hsV:=Nat.lt_of_lt_of_le hsV hb4'.size
 clear hb4' hb3
 go_wp2_with fail
 refine(glue hA hX (by omega)).mono ?_
 rintro en w5 ⟨⟨qY,cY,rfl,hY⟩,hb5'⟩
 have hb5:=qbt hb4 hb5'
 have m0:=(hb5'.cell (p:=⟨w.heap.size,0,none⟩) hsV).trans m0
 have m2:=(hb5'.cell (p:=⟨w.heap.size,2,none⟩) hsV).trans m2
 have hsV:=Nat.lt_of_lt_of_le hsV hb5'.size
 clear hb5' hb4
 go_wp2
 go_ret2
 have eW:A++([signW (op9 4)]++B)=A++signW 16::B:=by
  rfl
 have hln:=hY.len
 rw[eW]at hln
 unfold WEnd WRet
 rw[hln]
 rw[eW]at hY
 exact⟨⟨qY,cY,rfl,hY⟩,hb5,by omega,by omega⟩
theorem wo_in {f:Nat}(hP:POk f)(e:List Nd)(p:Option Addr)(c:Nat)(w:World)(k:Nat)(x:Nd)(s r:List Nd)(he:EArg w e p)(hx:e[k]? =some x)(hop:x.op=20)(p1:pastE f (e.drop (k+1))=some s)(p2:pastE f s=some r):
 Calls Tryz.prog 15 #[.slice p e.length c,.int .i64 (k:Int)] w (WEnd e k r (partW (wdE f) 4 (e.drop (k+1))++signW 20::partW (wdE f) 4 s) w):=by
 have hk:k<e.length:=(List.getElem?_eq_some_iff.1 hx).1
 have hex:e[k]=x:=by rw[List.getElem?_eq_getElem hk]at hx;exact Option.some.inj hx
 have hwf:=he.nl.wfs x (List.mem_of_getElem? hx)
 obtain⟨bq,oq,hpq,hbq,e0,e1,e2,e3,_⟩:=he.nl.at hk
 rw[hex]at e0 e1 e2 e3
 subst hpq
 have hle:=he.len
 have i1:(k:Int)<(e.length:Int):=by omega
 obtain⟨op,nn,ss,tt⟩:=x
 dsimp only at hop e0 e1 e2 e3 hwf ⊢
 subst hop
 have HL:=fun w=>level_any 20 w (by omega)
 rw[show lvO 20=3 from rfl]at HL
 obtain⟨A,hAA⟩:∃A,partW (wdE f) 4 (e.drop (k+1))=A:=⟨_,rfl⟩
 rw[hAA]
 obtain⟨nA,hnA⟩:∃n,A.length=n:=⟨_,rfl⟩
 have HPA:=fun w he=>part_at hP e (some ⟨bq,oq,none⟩) c w (k+1) _ s 4 A nA _ he rfl p1 hAA hnA rfl
 have hsA:=(nd_suffix p1).2
 obtain⟨B,hAB⟩:∃A,partW (wdE f) 4 s=A:=⟨_,rfl⟩
 rw[hAB]
 obtain⟨nB,hnB⟩:∃n,B.length=n:=⟨_,rfl⟩
 have hmB:e.drop (e.length-s.length)=s:=(nd_suffix p1).1
 have HPB:=fun w he=>part_at hP e (some ⟨bq,oq,none⟩) c w (e.length-s.length) _ r 4 B nB _ he hmB p2 hAB hnB rfl
 have hsB:=(nd_suffix (show pastE f (e.drop (e.length-s.length))=some r by rw[hmB];exact p2)).2
 have hbV:Below w.heap.size w (w.alloc (.cells #[.int .i64 20,.int .i64 nn,.string ss,.string tt] 29)):=(Below.refl _ _).alloc (Nat.le_refl _) _
 have hsV:w.heap.size<(w.alloc (.cells #[.int .i64 20,.int .i64 nn,.string ss,.string tt] 29)).heap.size:=by simp
 have m0:(w.alloc (.cells #[.int .i64 20,.int .i64 nn,.string ss,.string tt] 29)).cell? ⟨w.heap.size,0,none⟩=some (.int .i64 20):=by simp
 have m2:(w.alloc (.cells #[.int .i64 20,.int .i64 nn,.string ss,.string tt] 29)).cell? ⟨w.heap.size,2,none⟩=some (.string ss):=by simp
 have HE:Hid (∀w',Below w.heap.size w w'→EArg w' e (some ⟨bq,oq,none⟩)):=fun w' hb=>he.up hb
 clear hAA hnA hAB hnB he hx hex hP
 go_enter Tryz.func15,Tryz.ntmps15
 go_wp2_with (go_at_call 23;refine(HL _).mono ?_;rintro en w' ⟨rfl,rfl⟩)
 generalize hV:w.alloc (.cells #[.int .i64 20,.int .i64 nn,.string ss,.string tt] 29)=V at *
 clear hV e0 e1 e2 e3
 refine(HPA _ (HE.out _ hbV)).mono ?_
 rintro en w1 ⟨⟨qA,cA,rfl,hA⟩,hb1',lA,uA⟩
 clear HPA
 have hb1:=qbt hbV hb1'
 have m0:=(hb1'.cell (p:=⟨w.heap.size,0,none⟩) hsV).trans m0
 have m2:=(hb1'.cell (p:=⟨w.heap.size,2,none⟩) hsV).trans m2
 have hsV:=Nat.lt_of_lt_of_le hsV hb1'.size
 clear hb1' hbV
 go_wp2_with fail
 refine(HPB _ (HE.out _ hb1)).mono ?_
 rintro en w2 ⟨⟨qB,cB,rfl,hB⟩,hb2',lB,uB⟩
 clear HPB
 have hA:=hA.up hb2'
 have hb2:=qbt hb1 hb2'
 have m0:=(hb2'.cell (p:=⟨w.heap.size,0,none⟩) hsV).trans m0
 have m2:=(hb2'.cell (p:=⟨w.heap.size,2,none⟩) hsV).trans m2
 have hsV:=Nat.lt_of_lt_of_le hsV hb2'.size
 clear hb2' hb1
 go_wp2_with fail
 refine(signOf_any 5 (by omega) _).mono ?_
 rintro en w3 ⟨⟨qS,cS,rfl,hS⟩,hb3'⟩
 have hA:=hA.up hb3'
 have hB:=hB.up hb3'
 have hb3:=qbt hb2 hb3'
 have m0:=(hb3'.cell (p:=⟨w.heap.size,0,none⟩) hsV).trans m0
 have m2:=(hb3'.cell (p:=⟨w.heap.size,2,none⟩) hsV).trans m2
 have hsV:=Nat.lt_of_lt_of_le hsV hb3'.size
 clear hb3' hb2
 go_wp2_with fail
 refine(glue hS hB (by omega)).mono ?_
 rintro en w4 ⟨⟨qX,cX,rfl,hX⟩,hb4'⟩
 have hA:=hA.up hb4'
 have hb4:=qbt hb3 hb4'
 have m0:=(hb4'.cell (p:=⟨w.heap.size,0,none⟩) hsV).trans m0
 have m2:=(hb4'.cell (p:=⟨w.heap.size,2,none⟩) hsV).trans m2
 have hsV:=Nat.lt_of_lt_of_le hsV hb4'.size
 clear hb4' hb3
 go_wp2_with fail
 refine(glue hA hX (by omega)).mono ?_
 rintro en w5 ⟨⟨qY,cY,rfl,hY⟩,hb5'⟩
 have hb5:=qbt hb4 hb5'
 have m0:=(hb5'.cell (p:=⟨w.heap.size,0,none⟩) hsV).trans m0
 have m2:=(hb5'.cell (p:=⟨w.heap.size,2,none⟩) hsV).trans m2
 have hsV:=Nat.lt_of_lt_of_le hsV hb5'.size
 clear hb5' hb4
 go_wp2
 go_ret2
 have eW:A++([signW (op9 5)]++B)=A++signW 20::B:=by
  rfl
 have hln:=hY.len
 rw[eW]at hln
 unfold WEnd WRet
 rw[hln]
 rw[eW]at hY
 exact⟨⟨qY,cY,rfl,hY⟩,hb5,by omega,by omega⟩
theorem wo_has {f:Nat}(hP:POk f)(e:List Nd)(p:Option Addr)(c:Nat)(w:World)(k:Nat)(x:Nd)(r:List Nd)(he:EArg w e p)(hx:e[k]? =some x)(hop:x.op=21)(p1:pastE f (e.drop (k+1))=some r):
 Calls Tryz.prog 15 #[.slice p e.length c,.int .i64 (k:Int)] w (WEnd e k r (partW (wdE f) 4 (e.drop (k+1))++[nmW wHas,nmW x.s.data.toList]) w):=by
 have hk:k<e.length:=(List.getElem?_eq_some_iff.1 hx).1
 have hex:e[k]=x:=by rw[List.getElem?_eq_getElem hk]at hx;exact Option.some.inj hx
 have hwf:=he.nl.wfs x (List.mem_of_getElem? hx)
 obtain⟨bq,oq,hpq,hbq,e0,e1,e2,e3,_⟩:=he.nl.at hk
 rw[hex]at e0 e1 e2 e3
 subst hpq
 have hle:=he.len
 have i1:(k:Int)<(e.length:Int):=by omega
 obtain⟨op,nn,ss,tt⟩:=x
 dsimp only at hop e0 e1 e2 e3 hwf ⊢
 subst hop
 have HL:=fun w=>level_any 21 w (by omega)
 rw[show lvO 21=3 from rfl]at HL
 obtain⟨A,hAA⟩:∃A,partW (wdE f) 4 (e.drop (k+1))=A:=⟨_,rfl⟩
 rw[hAA]
 obtain⟨nA,hnA⟩:∃n,A.length=n:=⟨_,rfl⟩
 have HPA:=fun w he=>part_at hP e (some ⟨bq,oq,none⟩) c w (k+1) _ r 4 A nA _ he rfl p1 hAA hnA rfl
 have hsA:=(nd_suffix p1).2
 have hbV:Below w.heap.size w (w.alloc (.cells #[.int .i64 21,.int .i64 nn,.string ss,.string tt] 29)):=(Below.refl _ _).alloc (Nat.le_refl _) _
 have hsV:w.heap.size<(w.alloc (.cells #[.int .i64 21,.int .i64 nn,.string ss,.string tt] 29)).heap.size:=by simp
 have m0:(w.alloc (.cells #[.int .i64 21,.int .i64 nn,.string ss,.string tt] 29)).cell? ⟨w.heap.size,0,none⟩=some (.int .i64 21):=by simp
 have m2:(w.alloc (.cells #[.int .i64 21,.int .i64 nn,.string ss,.string tt] 29)).cell? ⟨w.heap.size,2,none⟩=some (.string ss):=by simp
 have HE:Hid (∀w',Below w.heap.size w w'→EArg w' e (some ⟨bq,oq,none⟩)):=fun w' hb=>he.up hb
 clear hAA hnA he hx hex hP
 go_enter Tryz.func15,Tryz.ntmps15
 go_wp2_with (go_at_call 23;refine(HL _).mono ?_;rintro en w' ⟨rfl,rfl⟩)
 generalize hV:w.alloc (.cells #[.int .i64 21,.int .i64 nn,.string ss,.string tt] 29)=V at *
 clear hV e0 e1 e2 e3
 refine(HPA _ (HE.out _ hbV)).mono ?_
 rintro en w1 ⟨⟨qA,cA,rfl,hA⟩,hb1',lA,uA⟩
 clear HPA
 have hb1:=qbt hbV hb1'
 have m0:=(hb1'.cell (p:=⟨w.heap.size,0,none⟩) hsV).trans m0
 have m2:=(hb1'.cell (p:=⟨w.heap.size,2,none⟩) hsV).trans m2
 have hsV:=Nat.lt_of_lt_of_le hsV hb1'.size
 clear hb1' hbV
 go_wp2_with fail
 have hsV1:w.heap.size<w1.drew.heap.size:=hsV
 have m2d:w1.drew.cell? ⟨w.heap.size,2,none⟩=some (.string ss):=m2
 have hA2:TArg w1.drew A nA qA cA:=hA.up (Below.refl w1.heap.size w1).drew
 clear m2 hsV hA
 go_region_with (first
  | (go_at_call 25;have hz:=hb4;clear hz;refine(glue (w:=w4) hA5 hX (by omega)).mono ?_;rintro en w5 ⟨⟨qY,cY,rfl,hY⟩,hb5⟩)
  | (go_at_call 25;have hz:=hb3;clear hz;refine(glue (w:=w3) hK4 hN (by omega)).mono ?_;rintro en w4 ⟨⟨qX,cX,rfl,hX⟩,hb4⟩;have hA5:TArg w4 A nA qA cA:=hA4.up hb4)
  | (go_at_call 26;have hz:=hb2;clear hz;refine(word_one 1 ss w2 hwf.1).mono ?_;rintro en w3 ⟨⟨qN,cN,rfl,hN⟩,hb3⟩;have hA4:TArg w3 A nA qA cA:=hA3.up hb3;have hK4:=hK.up hb3)
  | (go_at_call 26;refine(word_one 1 ⟨#[104,97,115]⟩ w1.drew (by unfold maxLen;decide)).mono ?_;rintro en w2 ⟨⟨qK,cK,rfl,hK⟩,hb2⟩;have hA3:TArg w2 A nA qA cA:=hA2.up hb2;have m3:w2.cell? ⟨w.heap.size,2,none⟩=some (.string ss):=(hb2.cell (p:=⟨w.heap.size,2,none⟩) hsV1).trans m2d))
 all_goals
  have hbZ:Below w.heap.size w w5:=qbt (qbt (qbt (qbt (qbt hb1 (Below.refl w1.heap.size w1).drew) hb2) hb3) hb4) hb5
  go_wp2
  go_ret2
  have eW:A++([⟨1,⟨#[104,97,115]⟩,0⟩]++[⟨1,ss,0⟩])=A++[nmW wHas,nmW ss.data.toList]:=by rw[nmW_self];rfl
  have hln:=hY.len
  rw[eW]at hln
  unfold WEnd WRet
  rw[hln]
  rw[eW]at hY
  exact⟨⟨qY,cY,rfl,hY⟩,hbZ,by omega,by omega⟩
theorem wo_is {f:Nat}(hP:POk f)(e:List Nd)(p:Option Addr)(c:Nat)(w:World)(k:Nat)(x:Nd)(r:List Nd)(he:EArg w e p)(hx:e[k]? =some x)(hop:x.op=24)(p1:pastE f (e.drop (k+1))=some r):
 Calls Tryz.prog 15 #[.slice p e.length c,.int .i64 (k:Int)] w (WEnd e k r (partW (wdE f) 4 (e.drop (k+1))++[nmW wIs,nmW x.s.data.toList]) w):=by
 have hk:k<e.length:=(List.getElem?_eq_some_iff.1 hx).1
 have hex:e[k]=x:=by rw[List.getElem?_eq_getElem hk]at hx;exact Option.some.inj hx
 have hwf:=he.nl.wfs x (List.mem_of_getElem? hx)
 obtain⟨bq,oq,hpq,hbq,e0,e1,e2,e3,_⟩:=he.nl.at hk
 rw[hex]at e0 e1 e2 e3
 subst hpq
 have hle:=he.len
 have i1:(k:Int)<(e.length:Int):=by omega
 obtain⟨op,nn,ss,tt⟩:=x
 dsimp only at hop e0 e1 e2 e3 hwf ⊢
 subst hop
 have HL:=fun w=>level_any 24 w (by omega)
 rw[show lvO 24=3 from rfl]at HL
 obtain⟨A,hAA⟩:∃A,partW (wdE f) 4 (e.drop (k+1))=A:=⟨_,rfl⟩
 rw[hAA]
 obtain⟨nA,hnA⟩:∃n,A.length=n:=⟨_,rfl⟩
 have HPA:=fun w he=>part_at hP e (some ⟨bq,oq,none⟩) c w (k+1) _ r 4 A nA _ he rfl p1 hAA hnA rfl
 have hsA:=(nd_suffix p1).2
 have hbV:Below w.heap.size w (w.alloc (.cells #[.int .i64 24,.int .i64 nn,.string ss,.string tt] 29)):=(Below.refl _ _).alloc (Nat.le_refl _) _
 have hsV:w.heap.size<(w.alloc (.cells #[.int .i64 24,.int .i64 nn,.string ss,.string tt] 29)).heap.size:=by simp
 have m0:(w.alloc (.cells #[.int .i64 24,.int .i64 nn,.string ss,.string tt] 29)).cell? ⟨w.heap.size,0,none⟩=some (.int .i64 24):=by simp
 have m2:(w.alloc (.cells #[.int .i64 24,.int .i64 nn,.string ss,.string tt] 29)).cell? ⟨w.heap.size,2,none⟩=some (.string ss):=by simp
 have HE:Hid (∀w',Below w.heap.size w w'→EArg w' e (some ⟨bq,oq,none⟩)):=fun w' hb=>he.up hb
 clear hAA hnA he hx hex hP
 go_enter Tryz.func15,Tryz.ntmps15
 go_wp2_with (go_at_call 23;refine(HL _).mono ?_;rintro en w' ⟨rfl,rfl⟩)
 generalize hV:w.alloc (.cells #[.int .i64 24,.int .i64 nn,.string ss,.string tt] 29)=V at *
 clear hV e0 e1 e2 e3
 refine(HPA _ (HE.out _ hbV)).mono ?_
 rintro en w1 ⟨⟨qA,cA,rfl,hA⟩,hb1',lA,uA⟩
 clear HPA
 have hb1:=qbt hbV hb1'
 have m0:=(hb1'.cell (p:=⟨w.heap.size,0,none⟩) hsV).trans m0
 have m2:=(hb1'.cell (p:=⟨w.heap.size,2,none⟩) hsV).trans m2
 have hsV:=Nat.lt_of_lt_of_le hsV hb1'.size
 clear hb1' hbV
 go_wp2_with fail
 have hsV1:w.heap.size<w1.drew.heap.size:=hsV
 have m2d:w1.drew.cell? ⟨w.heap.size,2,none⟩=some (.string ss):=m2
 have hA2:TArg w1.drew A nA qA cA:=hA.up (Below.refl w1.heap.size w1).drew
 clear m2 hsV hA
 go_region_with (first
  | (go_at_call 25;have hz:=hb4;clear hz;refine(glue (w:=w4) hA5 hX (by omega)).mono ?_;rintro en w5 ⟨⟨qY,cY,rfl,hY⟩,hb5⟩)
  | (go_at_call 25;have hz:=hb3;clear hz;refine(glue (w:=w3) hK4 hN (by omega)).mono ?_;rintro en w4 ⟨⟨qX,cX,rfl,hX⟩,hb4⟩;have hA5:TArg w4 A nA qA cA:=hA4.up hb4)
  | (go_at_call 26;have hz:=hb2;clear hz;refine(word_one 1 ss w2 hwf.1).mono ?_;rintro en w3 ⟨⟨qN,cN,rfl,hN⟩,hb3⟩;have hA4:TArg w3 A nA qA cA:=hA3.up hb3;have hK4:=hK.up hb3)
  | (go_at_call 26;refine(word_one 1 ⟨#[105,115]⟩ w1.drew (by unfold maxLen;decide)).mono ?_;rintro en w2 ⟨⟨qK,cK,rfl,hK⟩,hb2⟩;have hA3:TArg w2 A nA qA cA:=hA2.up hb2;have m3:w2.cell? ⟨w.heap.size,2,none⟩=some (.string ss):=(hb2.cell (p:=⟨w.heap.size,2,none⟩) hsV1).trans m2d))
 all_goals
  have hbZ:Below w.heap.size w w5:=qbt (qbt (qbt (qbt (qbt hb1 (Below.refl w1.heap.size w1).drew) hb2) hb3) hb4) hb5
  go_wp2
  go_ret2
  have eW:A++([⟨1,⟨#[105,115]⟩,0⟩]++[⟨1,ss,0⟩])=A++[nmW wIs,nmW ss.data.toList]:=by rw[nmW_self];rfl
  have hln:=hY.len
  rw[eW]at hln
  unfold WEnd WRet
  rw[hln]
  rw[eW]at hY
  exact⟨⟨qY,cY,rfl,hY⟩,hbZ,by omega,by omega⟩
theorem wo_like {f:Nat}(hP:POk f)(e:List Nd)(p:Option Addr)(c:Nat)(w:World)(k:Nat)(x:Nd)(r:List Nd)(he:EArg w e p)(hx:e[k]? =some x)(hop:x.op=23)(p1:pastE f (e.drop (k+1))=some r):
 Calls Tryz.prog 15 #[.slice p e.length c,.int .i64 (k:Int)] w (WEnd e k r (partW (wdE f) 4 (e.drop (k+1))++[nmW wLike,qtW x.s.data.toList]) w):=by
 have hk:k<e.length:=(List.getElem?_eq_some_iff.1 hx).1
 have hex:e[k]=x:=by rw[List.getElem?_eq_getElem hk]at hx;exact Option.some.inj hx
 have hwf:=he.nl.wfs x (List.mem_of_getElem? hx)
 obtain⟨bq,oq,hpq,hbq,e0,e1,e2,e3,_⟩:=he.nl.at hk
 rw[hex]at e0 e1 e2 e3
 subst hpq
 have hle:=he.len
 have i1:(k:Int)<(e.length:Int):=by omega
 obtain⟨op,nn,ss,tt⟩:=x
 dsimp only at hop e0 e1 e2 e3 hwf ⊢
 subst hop
 have HL:=fun w=>level_any 23 w (by omega)
 rw[show lvO 23=3 from rfl]at HL
 obtain⟨A,hAA⟩:∃A,partW (wdE f) 4 (e.drop (k+1))=A:=⟨_,rfl⟩
 rw[hAA]
 obtain⟨nA,hnA⟩:∃n,A.length=n:=⟨_,rfl⟩
 have HPA:=fun w he=>part_at hP e (some ⟨bq,oq,none⟩) c w (k+1) _ r 4 A nA _ he rfl p1 hAA hnA rfl
 have hsA:=(nd_suffix p1).2
 have hbV:Below w.heap.size w (w.alloc (.cells #[.int .i64 23,.int .i64 nn,.string ss,.string tt] 29)):=(Below.refl _ _).alloc (Nat.le_refl _) _
 have hsV:w.heap.size<(w.alloc (.cells #[.int .i64 23,.int .i64 nn,.string ss,.string tt] 29)).heap.size:=by simp
 have m0:(w.alloc (.cells #[.int .i64 23,.int .i64 nn,.string ss,.string tt] 29)).cell? ⟨w.heap.size,0,none⟩=some (.int .i64 23):=by simp
 have m2:(w.alloc (.cells #[.int .i64 23,.int .i64 nn,.string ss,.string tt] 29)).cell? ⟨w.heap.size,2,none⟩=some (.string ss):=by simp
 have HE:Hid (∀w',Below w.heap.size w w'→EArg w' e (some ⟨bq,oq,none⟩)):=fun w' hb=>he.up hb
 clear hAA hnA he hx hex hP
 go_enter Tryz.func15,Tryz.ntmps15
 go_wp2_with (go_at_call 23;refine(HL _).mono ?_;rintro en w' ⟨rfl,rfl⟩)
 generalize hV:w.alloc (.cells #[.int .i64 23,.int .i64 nn,.string ss,.string tt] 29)=V at *
 clear hV e0 e1 e2 e3
 refine(HPA _ (HE.out _ hbV)).mono ?_
 rintro en w1 ⟨⟨qA,cA,rfl,hA⟩,hb1',lA,uA⟩
 clear HPA
 have hb1:=qbt hbV hb1'
 have m0:=(hb1'.cell (p:=⟨w.heap.size,0,none⟩) hsV).trans m0
 have m2:=(hb1'.cell (p:=⟨w.heap.size,2,none⟩) hsV).trans m2
 have hsV:=Nat.lt_of_lt_of_le hsV hb1'.size
 clear hb1' hbV
 go_wp2_with fail
 have hsV1:w.heap.size<w1.drew.heap.size:=hsV
 have m2d:w1.drew.cell? ⟨w.heap.size,2,none⟩=some (.string ss):=m2
 have hA2:TArg w1.drew A nA qA cA:=hA.up (Below.refl w1.heap.size w1).drew
 clear m2 hsV hA
 go_region_with (first
  | (go_at_call 25;have hz:=hb4;clear hz;refine(glue (w:=w4) hA5 hX (by omega)).mono ?_;rintro en w5 ⟨⟨qY,cY,rfl,hY⟩,hb5⟩)
  | (go_at_call 25;have hz:=hb3;clear hz;refine(glue (w:=w3) hK4 hN (by omega)).mono ?_;rintro en w4 ⟨⟨qX,cX,rfl,hX⟩,hb4⟩;have hA5:TArg w4 A nA qA cA:=hA4.up hb4)
  | (go_at_call 26;have hz:=hb2;clear hz;refine(word_one 3 ss w2 hwf.1).mono ?_;rintro en w3 ⟨⟨qN,cN,rfl,hN⟩,hb3⟩;have hA4:TArg w3 A nA qA cA:=hA3.up hb3;have hK4:=hK.up hb3)
  | (go_at_call 26;refine(word_one 1 ⟨#[108,105,107,101]⟩ w1.drew (by unfold maxLen;decide)).mono ?_;rintro en w2 ⟨⟨qK,cK,rfl,hK⟩,hb2⟩;have hA3:TArg w2 A nA qA cA:=hA2.up hb2;have m3:w2.cell? ⟨w.heap.size,2,none⟩=some (.string ss):=(hb2.cell (p:=⟨w.heap.size,2,none⟩) hsV1).trans m2d))
 all_goals
  have hbZ:Below w.heap.size w w5:=qbt (qbt (qbt (qbt (qbt hb1 (Below.refl w1.heap.size w1).drew) hb2) hb3) hb4) hb5
  go_wp2
  go_ret2
  have eW:A++([⟨1,⟨#[108,105,107,101]⟩,0⟩]++[⟨3,ss,0⟩])=A++[nmW wLike,qtW ss.data.toList]:=by rw[qtW_self];rfl
  have hln:=hY.len
  rw[eW]at hln
  unfold WEnd WRet
  rw[hln]
  rw[eW]at hY
  exact⟨⟨qY,cY,rfl,hY⟩,hbZ,by omega,by omega⟩
theorem wo_get {f:Nat}(hP:POk f)(e:List Nd)(p:Option Addr)(c:Nat)(w:World)(k:Nat)(x:Nd)(r:List Nd)(he:EArg w e p)(hx:e[k]? =some x)(hop:x.op=22)(p1:pastE f (e.drop (k+1))=some r):
 Calls Tryz.prog 15 #[.slice p e.length c,.int .i64 (k:Int)] w (WEnd e k r (partW (wdE f) 7 (e.drop (k+1))++[sgW [46],nmW x.s.data.toList]) w):=by
 have hk:k<e.length:=(List.getElem?_eq_some_iff.1 hx).1
 have hex:e[k]=x:=by rw[List.getElem?_eq_getElem hk]at hx;exact Option.some.inj hx
 have hwf:=he.nl.wfs x (List.mem_of_getElem? hx)
 obtain⟨bq,oq,hpq,hbq,e0,e1,e2,e3,_⟩:=he.nl.at hk
 rw[hex]at e0 e1 e2 e3
 subst hpq
 have hle:=he.len
 have i1:(k:Int)<(e.length:Int):=by omega
 obtain⟨op,nn,ss,tt⟩:=x
 dsimp only at hop e0 e1 e2 e3 hwf ⊢
 subst hop
 have HL:=fun w=>level_any 22 w (by omega)
 rw[show lvO 22=7 from rfl]at HL
 obtain⟨A,hAA⟩:∃A,partW (wdE f) 7 (e.drop (k+1))=A:=⟨_,rfl⟩
 rw[hAA]
 obtain⟨nA,hnA⟩:∃n,A.length=n:=⟨_,rfl⟩
 have HPA:=fun w he=>part_at hP e (some ⟨bq,oq,none⟩) c w (k+1) _ r 7 A nA _ he rfl p1 hAA hnA rfl
 have hsA:=(nd_suffix p1).2
 have hbV:Below w.heap.size w (w.alloc (.cells #[.int .i64 22,.int .i64 nn,.string ss,.string tt] 29)):=(Below.refl _ _).alloc (Nat.le_refl _) _
 have hsV:w.heap.size<(w.alloc (.cells #[.int .i64 22,.int .i64 nn,.string ss,.string tt] 29)).heap.size:=by simp
 have m0:(w.alloc (.cells #[.int .i64 22,.int .i64 nn,.string ss,.string tt] 29)).cell? ⟨w.heap.size,0,none⟩=some (.int .i64 22):=by simp
 have m2:(w.alloc (.cells #[.int .i64 22,.int .i64 nn,.string ss,.string tt] 29)).cell? ⟨w.heap.size,2,none⟩=some (.string ss):=by simp
 have HE:Hid (∀w',Below w.heap.size w w'→EArg w' e (some ⟨bq,oq,none⟩)):=fun w' hb=>he.up hb
 clear hAA hnA he hx hex hP
 go_enter Tryz.func15,Tryz.ntmps15
 go_wp2_with (go_at_call 23;refine(HL _).mono ?_;rintro en w' ⟨rfl,rfl⟩)
 generalize hV:w.alloc (.cells #[.int .i64 22,.int .i64 nn,.string ss,.string tt] 29)=V at *
 clear hV e0 e1 e2 e3
 refine(HPA _ (HE.out _ hbV)).mono ?_
 rintro en w1 ⟨⟨qA,cA,rfl,hA⟩,hb1',lA,uA⟩
 clear HPA
 have hb1:=qbt hbV hb1'
 have m0:=(hb1'.cell (p:=⟨w.heap.size,0,none⟩) hsV).trans m0
 have m2:=(hb1'.cell (p:=⟨w.heap.size,2,none⟩) hsV).trans m2
 have hsV:=Nat.lt_of_lt_of_le hsV hb1'.size
 clear hb1' hbV
 go_wp2_with fail
 refine(word_one 5 ⟨#[46]⟩ _ (by unfold maxLen;decide)).mono ?_
 rintro en w2 ⟨⟨qK,cK,rfl,hK⟩,hb2'⟩
 have hA:=hA.up hb2'
 have hb2:=qbt hb1 hb2'
 have m0:=(hb2'.cell (p:=⟨w.heap.size,0,none⟩) hsV).trans m0
 have m2:=(hb2'.cell (p:=⟨w.heap.size,2,none⟩) hsV).trans m2
 have hsV:=Nat.lt_of_lt_of_le hsV hb2'.size
 clear hb2' hb1
 go_wp2_with fail
 refine(glue hA hK (by omega)).mono ?_
 rintro en w3 ⟨⟨qX,cX,rfl,hX⟩,hb3'⟩
 have hb3:=qbt hb2 hb3'
 have m0:=(hb3'.cell (p:=⟨w.heap.size,0,none⟩) hsV).trans m0
 have m2:=(hb3'.cell (p:=⟨w.heap.size,2,none⟩) hsV).trans m2
 have hsV:=Nat.lt_of_lt_of_le hsV hb3'.size
 clear hb3' hb2
 go_wp2_with fail
 refine(word_one 1 ss _ hwf.1).mono ?_
 rintro en w4 ⟨⟨qN,cN,rfl,hN⟩,hb4'⟩
 have hX:=hX.up hb4'
 have hb4:=qbt hb3 hb4'
 have m0:=(hb4'.cell (p:=⟨w.heap.size,0,none⟩) hsV).trans m0
 have m2:=(hb4'.cell (p:=⟨w.heap.size,2,none⟩) hsV).trans m2
 have hsV:=Nat.lt_of_lt_of_le hsV hb4'.size
 clear hb4' hb3
 go_wp2_with fail
 refine(glue hX hN (by omega)).mono ?_
 rintro en w5 ⟨⟨qY,cY,rfl,hY⟩,hb5'⟩
 have hb5:=qbt hb4 hb5'
 have m0:=(hb5'.cell (p:=⟨w.heap.size,0,none⟩) hsV).trans m0
 have m2:=(hb5'.cell (p:=⟨w.heap.size,2,none⟩) hsV).trans m2
 have hsV:=Nat.lt_of_lt_of_le hsV hb5'.size
 clear hb5' hb4
 go_wp2
 go_ret2
 have eW:A++[⟨5,⟨#[46]⟩,0⟩]++[⟨1,ss,0⟩]=A++[sgW [46],nmW ss.data.toList]:=by
  rw[nmW_self,List.append_assoc];rfl
 have hln:=hY.len
 rw[eW]at hln
 unfold WEnd WRet
 rw[hln]
 rw[eW]at hY
 exact⟨⟨qY,cY,rfl,hY⟩,hb5,by omega,by omega⟩
theorem wo_one {f:Nat}(hP:POk f)(e:List Nd)(p:Option Addr)(c:Nat)(w:World)(k:Nat)(x:Nd)(s r:List Nd)(he:EArg w e p)(hx:e[k]? =some x)(hop:x.op=25)(p1:pastE f (e.drop (k+1))=some s)(p2:pastE f s=some r):
 Calls Tryz.prog 15 #[.slice p e.length c,.int .i64 (k:Int)] w (WEnd e k r (partW (wdE f) 7 (e.drop (k+1))++sgW [46]::nmW (callW 25)::brk (partW (wdE f) 0 s)) w):=by
 have hk:k<e.length:=(List.getElem?_eq_some_iff.1 hx).1
 have hex:e[k]=x:=by rw[List.getElem?_eq_getElem hk]at hx;exact Option.some.inj hx
 have hwf:=he.nl.wfs x (List.mem_of_getElem? hx)
 obtain⟨bq,oq,hpq,hbq,e0,e1,e2,e3,_⟩:=he.nl.at hk
 rw[hex]at e0 e1 e2 e3
 subst hpq
 have hle:=he.len
 have i1:(k:Int)<(e.length:Int):=by omega
 obtain⟨op,nn,ss,tt⟩:=x
 dsimp only at hop e0 e1 e2 e3 hwf ⊢
 subst hop
 have HL:=fun w=>level_any 25 w (by omega)
 rw[show lvO 25=7 from rfl]at HL
 obtain⟨A,hAA⟩:∃A,partW (wdE f) 7 (e.drop (k+1))=A:=⟨_,rfl⟩
 rw[hAA]
 obtain⟨nA,hnA⟩:∃n,A.length=n:=⟨_,rfl⟩
 have HPA:=fun w he=>part_at hP e (some ⟨bq,oq,none⟩) c w (k+1) _ s 7 A nA _ he rfl p1 hAA hnA rfl
 have hsA:=(nd_suffix p1).2
 obtain⟨B,hAB⟩:∃A,partW (wdE f) 0 s=A:=⟨_,rfl⟩
 rw[hAB]
 obtain⟨nB,hnB⟩:∃n,B.length=n:=⟨_,rfl⟩
 have hmB:e.drop (e.length-s.length)=s:=(nd_suffix p1).1
 have HPB:=fun w he=>part_at hP e (some ⟨bq,oq,none⟩) c w (e.length-s.length) _ r 0 B nB _ he hmB p2 hAB hnB rfl
 have hsB:=(nd_suffix (show pastE f (e.drop (e.length-s.length))=some r by rw[hmB];exact p2)).2
 have hbV:Below w.heap.size w (w.alloc (.cells #[.int .i64 25,.int .i64 nn,.string ss,.string tt] 29)):=(Below.refl _ _).alloc (Nat.le_refl _) _
 have hsV:w.heap.size<(w.alloc (.cells #[.int .i64 25,.int .i64 nn,.string ss,.string tt] 29)).heap.size:=by simp
 have m0:(w.alloc (.cells #[.int .i64 25,.int .i64 nn,.string ss,.string tt] 29)).cell? ⟨w.heap.size,0,none⟩=some (.int .i64 25):=by simp
 have m2:(w.alloc (.cells #[.int .i64 25,.int .i64 nn,.string ss,.string tt] 29)).cell? ⟨w.heap.size,2,none⟩=some (.string ss):=by simp
 have HE:Hid (∀w',Below w.heap.size w w'→EArg w' e (some ⟨bq,oq,none⟩)):=fun w' hb=>he.up hb
 clear hAA hnA hAB hnB he hx hex hP
 go_enter Tryz.func15,Tryz.ntmps15
 go_wp2_with (go_at_call 23;refine(HL _).mono ?_;rintro en w' ⟨rfl,rfl⟩)
 generalize hV:w.alloc (.cells #[.int .i64 25,.int .i64 nn,.string ss,.string tt] 29)=V at *
 clear hV e0 e1 e2 e3
 refine(HPA _ (HE.out _ hbV)).mono ?_
 rintro en w1 ⟨⟨qA,cA,rfl,hA⟩,hb1',lA,uA⟩
 clear HPA
 have hb1:=qbt hbV hb1'
 have m0:=(hb1'.cell (p:=⟨w.heap.size,0,none⟩) hsV).trans m0
 have m2:=(hb1'.cell (p:=⟨w.heap.size,2,none⟩) hsV).trans m2
 have hsV:=Nat.lt_of_lt_of_le hsV hb1'.size
 clear hb1' hbV
 go_wp2_with fail
 refine(word_one 5 ⟨#[46]⟩ _ (by unfold maxLen;decide)).mono ?_
 rintro en w2 ⟨⟨qK,cK,rfl,hK⟩,hb2'⟩
 have hA:=hA.up hb2'
 have hb2:=qbt hb1 hb2'
 have m0:=(hb2'.cell (p:=⟨w.heap.size,0,none⟩) hsV).trans m0
 have m2:=(hb2'.cell (p:=⟨w.heap.size,2,none⟩) hsV).trans m2
 have hsV:=Nat.lt_of_lt_of_le hsV hb2'.size
 clear hb2' hb1
 go_wp2_with fail
 refine(glue hA hK (by omega)).mono ?_
 rintro en w3 ⟨⟨qX,cX,rfl,hX⟩,hb3'⟩
 have hb3:=qbt hb2 hb3'
 have m0:=(hb3'.cell (p:=⟨w.heap.size,0,none⟩) hsV).trans m0
 have m2:=(hb3'.cell (p:=⟨w.heap.size,2,none⟩) hsV).trans m2
 have hsV:=Nat.lt_of_lt_of_le hsV hb3'.size
 clear hb3' hb2
 go_wp2_with fail
 refine(HPB _ (HE.out _ hb3)).mono ?_
 rintro en w4 ⟨⟨qB,cB,rfl,hB⟩,hb4',lB,uB⟩
 clear HPB
 have hX:=hX.up hb4'
 have hb4:=qbt hb3 hb4'
 have m0:=(hb4'.cell (p:=⟨w.heap.size,0,none⟩) hsV).trans m0
 have m2:=(hb4'.cell (p:=⟨w.heap.size,2,none⟩) hsV).trans m2
 have hsV:=Nat.lt_of_lt_of_le hsV hb4'.size
 clear hb4' hb3
 go_wp2_with fail
 refine(word_one 1 ⟨#[99,111,110,116,97,105,110,115]⟩ _ (by unfold maxLen;decide)).mono ?_
 rintro en w5 ⟨⟨qN,cN,rfl,hN⟩,hb5'⟩
 have hX:=hX.up hb5'
 have hB:=hB.up hb5'
 have hb5:=qbt hb4 hb5'
 have m0:=(hb5'.cell (p:=⟨w.heap.size,0,none⟩) hsV).trans m0
 have m2:=(hb5'.cell (p:=⟨w.heap.size,2,none⟩) hsV).trans m2
 have hsV:=Nat.lt_of_lt_of_le hsV hb5'.size
 clear hb5' hb4
 go_wp2_with fail
 refine(glue hX hN (by omega)).mono ?_
 rintro en w6 ⟨⟨qY,cY,rfl,hY⟩,hb6'⟩
 have hB:=hB.up hb6'
 have hb6:=qbt hb5 hb6'
 have m0:=(hb6'.cell (p:=⟨w.heap.size,0,none⟩) hsV).trans m0
 have m2:=(hb6'.cell (p:=⟨w.heap.size,2,none⟩) hsV).trans m2
 have hsV:=Nat.lt_of_lt_of_le hsV hb6'.size
 clear hb6' hb5
 go_wp2_with fail
 refine(bracketed_any hB (by omega)).mono ?_
 rintro en w7 ⟨⟨qZ,cZ,rfl,hZ⟩,hb7'⟩
 have hY:=hY.up hb7'
 have hb7:=qbt hb6 hb7'
 have m0:=(hb7'.cell (p:=⟨w.heap.size,0,none⟩) hsV).trans m0
 have m2:=(hb7'.cell (p:=⟨w.heap.size,2,none⟩) hsV).trans m2
 have hsV:=Nat.lt_of_lt_of_le hsV hb7'.size
 clear hb7' hb6
 go_wp2_with fail
 refine(glue hY hZ (by omega)).mono ?_
 rintro en w8 ⟨⟨qQ,cQ,rfl,hQ⟩,hb8'⟩
 have hb8:=qbt hb7 hb8'
 have m0:=(hb8'.cell (p:=⟨w.heap.size,0,none⟩) hsV).trans m0
 have m2:=(hb8'.cell (p:=⟨w.heap.size,2,none⟩) hsV).trans m2
 have hsV:=Nat.lt_of_lt_of_le hsV hb8'.size
 clear hb8' hb7
 go_wp2
 go_ret2
 have eW:A++[⟨5,⟨#[46]⟩,0⟩]++[⟨1,⟨#[99,111,110,116,97,105,110,115]⟩,0⟩]++brk B=A++sgW [46]::nmW (callW 25)::brk B:=by
  rw[List.append_assoc,List.append_assoc];rfl
 have hln:=hQ.len
 rw[eW]at hln
 unfold WEnd WRet
 rw[hln]
 rw[eW]at hQ
 exact⟨⟨qQ,cQ,rfl,hQ⟩,hb8,by omega,by omega⟩
theorem wo_all {f:Nat}(hP:POk f)(e:List Nd)(p:Option Addr)(c:Nat)(w:World)(k:Nat)(x:Nd)(s r:List Nd)(he:EArg w e p)(hx:e[k]? =some x)(hop:x.op=26)(p1:pastE f (e.drop (k+1))=some s)(p2:pastE f s=some r):
 Calls Tryz.prog 15 #[.slice p e.length c,.int .i64 (k:Int)] w (WEnd e k r (partW (wdE f) 7 (e.drop (k+1))++sgW [46]::nmW (callW 26)::brk (partW (wdE f) 0 s)) w):=by
 have hk:k<e.length:=(List.getElem?_eq_some_iff.1 hx).1
 have hex:e[k]=x:=by rw[List.getElem?_eq_getElem hk]at hx;exact Option.some.inj hx
 have hwf:=he.nl.wfs x (List.mem_of_getElem? hx)
 obtain⟨bq,oq,hpq,hbq,e0,e1,e2,e3,_⟩:=he.nl.at hk
 rw[hex]at e0 e1 e2 e3
 subst hpq
 have hle:=he.len
 have i1:(k:Int)<(e.length:Int):=by omega
 obtain⟨op,nn,ss,tt⟩:=x
 dsimp only at hop e0 e1 e2 e3 hwf ⊢
 subst hop
 have HL:=fun w=>level_any 26 w (by omega)
 rw[show lvO 26=7 from rfl]at HL
 obtain⟨A,hAA⟩:∃A,partW (wdE f) 7 (e.drop (k+1))=A:=⟨_,rfl⟩
 rw[hAA]
 obtain⟨nA,hnA⟩:∃n,A.length=n:=⟨_,rfl⟩
 have HPA:=fun w he=>part_at hP e (some ⟨bq,oq,none⟩) c w (k+1) _ s 7 A nA _ he rfl p1 hAA hnA rfl
 have hsA:=(nd_suffix p1).2
 obtain⟨B,hAB⟩:∃A,partW (wdE f) 0 s=A:=⟨_,rfl⟩
 rw[hAB]
 obtain⟨nB,hnB⟩:∃n,B.length=n:=⟨_,rfl⟩
 have hmB:e.drop (e.length-s.length)=s:=(nd_suffix p1).1
 have HPB:=fun w he=>part_at hP e (some ⟨bq,oq,none⟩) c w (e.length-s.length) _ r 0 B nB _ he hmB p2 hAB hnB rfl
 have hsB:=(nd_suffix (show pastE f (e.drop (e.length-s.length))=some r by rw[hmB];exact p2)).2
 have hbV:Below w.heap.size w (w.alloc (.cells #[.int .i64 26,.int .i64 nn,.string ss,.string tt] 29)):=(Below.refl _ _).alloc (Nat.le_refl _) _
 have hsV:w.heap.size<(w.alloc (.cells #[.int .i64 26,.int .i64 nn,.string ss,.string tt] 29)).heap.size:=by simp
 have m0:(w.alloc (.cells #[.int .i64 26,.int .i64 nn,.string ss,.string tt] 29)).cell? ⟨w.heap.size,0,none⟩=some (.int .i64 26):=by simp
 have m2:(w.alloc (.cells #[.int .i64 26,.int .i64 nn,.string ss,.string tt] 29)).cell? ⟨w.heap.size,2,none⟩=some (.string ss):=by simp
 have HE:Hid (∀w',Below w.heap.size w w'→EArg w' e (some ⟨bq,oq,none⟩)):=fun w' hb=>he.up hb
 clear hAA hnA hAB hnB he hx hex hP
 go_enter Tryz.func15,Tryz.ntmps15
 go_wp2_with (go_at_call 23;refine(HL _).mono ?_;rintro en w' ⟨rfl,rfl⟩)
 generalize hV:w.alloc (.cells #[.int .i64 26,.int .i64 nn,.string ss,.string tt] 29)=V at *
 clear hV e0 e1 e2 e3
 refine(HPA _ (HE.out _ hbV)).mono ?_
 rintro en w1 ⟨⟨qA,cA,rfl,hA⟩,hb1',lA,uA⟩
 clear HPA
 have hb1:=qbt hbV hb1'
 have m0:=(hb1'.cell (p:=⟨w.heap.size,0,none⟩) hsV).trans m0
 have m2:=(hb1'.cell (p:=⟨w.heap.size,2,none⟩) hsV).trans m2
 have hsV:=Nat.lt_of_lt_of_le hsV hb1'.size
 clear hb1' hbV
 go_wp2_with fail
 refine(word_one 5 ⟨#[46]⟩ _ (by unfold maxLen;decide)).mono ?_
 rintro en w2 ⟨⟨qK,cK,rfl,hK⟩,hb2'⟩
 have hA:=hA.up hb2'
 have hb2:=qbt hb1 hb2'
 have m0:=(hb2'.cell (p:=⟨w.heap.size,0,none⟩) hsV).trans m0
 have m2:=(hb2'.cell (p:=⟨w.heap.size,2,none⟩) hsV).trans m2
 have hsV:=Nat.lt_of_lt_of_le hsV hb2'.size
 clear hb2' hb1
 go_wp2_with fail
 refine(glue hA hK (by omega)).mono ?_
 rintro en w3 ⟨⟨qX,cX,rfl,hX⟩,hb3'⟩
 have hb3:=qbt hb2 hb3'
 have m0:=(hb3'.cell (p:=⟨w.heap.size,0,none⟩) hsV).trans m0
 have m2:=(hb3'.cell (p:=⟨w.heap.size,2,none⟩) hsV).trans m2
 have hsV:=Nat.lt_of_lt_of_le hsV hb3'.size
 clear hb3' hb2
 go_wp2_with fail
 refine(HPB _ (HE.out _ hb3)).mono ?_
 rintro en w4 ⟨⟨qB,cB,rfl,hB⟩,hb4',lB,uB⟩
 clear HPB
 have hX:=hX.up hb4'
 have hb4:=qbt hb3 hb4'
 have m0:=(hb4'.cell (p:=⟨w.heap.size,0,none⟩) hsV).trans m0
 have m2:=(hb4'.cell (p:=⟨w.heap.size,2,none⟩) hsV).trans m2
 have hsV:=Nat.lt_of_lt_of_le hsV hb4'.size
 clear hb4' hb3
 go_wp2_with fail
 refine(word_one 1 ⟨#[99,111,110,116,97,105,110,115,65,108,108]⟩ _ (by unfold maxLen;decide)).mono ?_
 rintro en w5 ⟨⟨qN,cN,rfl,hN⟩,hb5'⟩
 have hX:=hX.up hb5'
 have hB:=hB.up hb5'
 have hb5:=qbt hb4 hb5'
 have m0:=(hb5'.cell (p:=⟨w.heap.size,0,none⟩) hsV).trans m0
 have m2:=(hb5'.cell (p:=⟨w.heap.size,2,none⟩) hsV).trans m2
 have hsV:=Nat.lt_of_lt_of_le hsV hb5'.size
 clear hb5' hb4
 go_wp2_with fail
 refine(glue hX hN (by omega)).mono ?_
 rintro en w6 ⟨⟨qY,cY,rfl,hY⟩,hb6'⟩
 have hB:=hB.up hb6'
 have hb6:=qbt hb5 hb6'
 have m0:=(hb6'.cell (p:=⟨w.heap.size,0,none⟩) hsV).trans m0
 have m2:=(hb6'.cell (p:=⟨w.heap.size,2,none⟩) hsV).trans m2
 have hsV:=Nat.lt_of_lt_of_le hsV hb6'.size
 clear hb6' hb5
 go_wp2_with fail
 refine(bracketed_any hB (by omega)).mono ?_
 rintro en w7 ⟨⟨qZ,cZ,rfl,hZ⟩,hb7'⟩
 have hY:=hY.up hb7'
 have hb7:=qbt hb6 hb7'
 have m0:=(hb7'.cell (p:=⟨w.heap.size,0,none⟩) hsV).trans m0
 have m2:=(hb7'.cell (p:=⟨w.heap.size,2,none⟩) hsV).trans m2
 have hsV:=Nat.lt_of_lt_of_le hsV hb7'.size
 clear hb7' hb6
 go_wp2_with fail
 refine(glue hY hZ (by omega)).mono ?_
 rintro en w8 ⟨⟨qQ,cQ,rfl,hQ⟩,hb8'⟩
 have hb8:=qbt hb7 hb8'
 have m0:=(hb8'.cell (p:=⟨w.heap.size,0,none⟩) hsV).trans m0
 have m2:=(hb8'.cell (p:=⟨w.heap.size,2,none⟩) hsV).trans m2
 have hsV:=Nat.lt_of_lt_of_le hsV hb8'.size
 clear hb8' hb7
 go_wp2
 go_ret2
 have eW:A++[⟨5,⟨#[46]⟩,0⟩]++[⟨1,⟨#[99,111,110,116,97,105,110,115,65,108,108]⟩,0⟩]++brk B=A++sgW [46]::nmW (callW 26)::brk B:=by
  rw[List.append_assoc,List.append_assoc];rfl
 have hln:=hQ.len
 rw[eW]at hln
 unfold WEnd WRet
 rw[hln]
 rw[eW]at hQ
 exact⟨⟨qQ,cQ,rfl,hQ⟩,hb8,by omega,by omega⟩
theorem wo_any {f:Nat}(hP:POk f)(e:List Nd)(p:Option Addr)(c:Nat)(w:World)(k:Nat)(x:Nd)(s r:List Nd)(he:EArg w e p)(hx:e[k]? =some x)(hop:x.op=27)(p1:pastE f (e.drop (k+1))=some s)(p2:pastE f s=some r):
 Calls Tryz.prog 15 #[.slice p e.length c,.int .i64 (k:Int)] w (WEnd e k r (partW (wdE f) 7 (e.drop (k+1))++sgW [46]::nmW (callW 27)::brk (partW (wdE f) 0 s)) w):=by
 have hk:k<e.length:=(List.getElem?_eq_some_iff.1 hx).1
 have hex:e[k]=x:=by rw[List.getElem?_eq_getElem hk]at hx;exact Option.some.inj hx
 have hwf:=he.nl.wfs x (List.mem_of_getElem? hx)
 obtain⟨bq,oq,hpq,hbq,e0,e1,e2,e3,_⟩:=he.nl.at hk
 rw[hex]at e0 e1 e2 e3
 subst hpq
 have hle:=he.len
 have i1:(k:Int)<(e.length:Int):=by omega
 obtain⟨op,nn,ss,tt⟩:=x
 dsimp only at hop e0 e1 e2 e3 hwf ⊢
 subst hop
 have HL:=fun w=>level_any 27 w (by omega)
 rw[show lvO 27=7 from rfl]at HL
 obtain⟨A,hAA⟩:∃A,partW (wdE f) 7 (e.drop (k+1))=A:=⟨_,rfl⟩
 rw[hAA]
 obtain⟨nA,hnA⟩:∃n,A.length=n:=⟨_,rfl⟩
 have HPA:=fun w he=>part_at hP e (some ⟨bq,oq,none⟩) c w (k+1) _ s 7 A nA _ he rfl p1 hAA hnA rfl
 have hsA:=(nd_suffix p1).2
 obtain⟨B,hAB⟩:∃A,partW (wdE f) 0 s=A:=⟨_,rfl⟩
 rw[hAB]
 obtain⟨nB,hnB⟩:∃n,B.length=n:=⟨_,rfl⟩
 have hmB:e.drop (e.length-s.length)=s:=(nd_suffix p1).1
 have HPB:=fun w he=>part_at hP e (some ⟨bq,oq,none⟩) c w (e.length-s.length) _ r 0 B nB _ he hmB p2 hAB hnB rfl
 have hsB:=(nd_suffix (show pastE f (e.drop (e.length-s.length))=some r by rw[hmB];exact p2)).2
 have hbV:Below w.heap.size w (w.alloc (.cells #[.int .i64 27,.int .i64 nn,.string ss,.string tt] 29)):=(Below.refl _ _).alloc (Nat.le_refl _) _
 have hsV:w.heap.size<(w.alloc (.cells #[.int .i64 27,.int .i64 nn,.string ss,.string tt] 29)).heap.size:=by simp
 have m0:(w.alloc (.cells #[.int .i64 27,.int .i64 nn,.string ss,.string tt] 29)).cell? ⟨w.heap.size,0,none⟩=some (.int .i64 27):=by simp
 have m2:(w.alloc (.cells #[.int .i64 27,.int .i64 nn,.string ss,.string tt] 29)).cell? ⟨w.heap.size,2,none⟩=some (.string ss):=by simp
 have HE:Hid (∀w',Below w.heap.size w w'→EArg w' e (some ⟨bq,oq,none⟩)):=fun w' hb=>he.up hb
 clear hAA hnA hAB hnB he hx hex hP
 go_enter Tryz.func15,Tryz.ntmps15
 go_wp2_with (go_at_call 23;refine(HL _).mono ?_;rintro en w' ⟨rfl,rfl⟩)
 generalize hV:w.alloc (.cells #[.int .i64 27,.int .i64 nn,.string ss,.string tt] 29)=V at *
 clear hV e0 e1 e2 e3
 refine(HPA _ (HE.out _ hbV)).mono ?_
 rintro en w1 ⟨⟨qA,cA,rfl,hA⟩,hb1',lA,uA⟩
 clear HPA
 have hb1:=qbt hbV hb1'
 have m0:=(hb1'.cell (p:=⟨w.heap.size,0,none⟩) hsV).trans m0
 have m2:=(hb1'.cell (p:=⟨w.heap.size,2,none⟩) hsV).trans m2
 have hsV:=Nat.lt_of_lt_of_le hsV hb1'.size
 clear hb1' hbV
 go_wp2_with fail
 refine(word_one 5 ⟨#[46]⟩ _ (by unfold maxLen;decide)).mono ?_
 rintro en w2 ⟨⟨qK,cK,rfl,hK⟩,hb2'⟩
 have hA:=hA.up hb2'
 have hb2:=qbt hb1 hb2'
 have m0:=(hb2'.cell (p:=⟨w.heap.size,0,none⟩) hsV).trans m0
 have m2:=(hb2'.cell (p:=⟨w.heap.size,2,none⟩) hsV).trans m2
 have hsV:=Nat.lt_of_lt_of_le hsV hb2'.size
 clear hb2' hb1
 go_wp2_with fail
 refine(glue hA hK (by omega)).mono ?_
 rintro en w3 ⟨⟨qX,cX,rfl,hX⟩,hb3'⟩
 have hb3:=qbt hb2 hb3'
 have m0:=(hb3'.cell (p:=⟨w.heap.size,0,none⟩) hsV).trans m0
 have m2:=(hb3'.cell (p:=⟨w.heap.size,2,none⟩) hsV).trans m2
 have hsV:=Nat.lt_of_lt_of_le hsV hb3'.size
 clear hb3' hb2
 go_wp2_with fail
 refine(HPB _ (HE.out _ hb3)).mono ?_
 rintro en w4 ⟨⟨qB,cB,rfl,hB⟩,hb4',lB,uB⟩
 clear HPB
 have hX:=hX.up hb4'
 have hb4:=qbt hb3 hb4'
 have m0:=(hb4'.cell (p:=⟨w.heap.size,0,none⟩) hsV).trans m0
 have m2:=(hb4'.cell (p:=⟨w.heap.size,2,none⟩) hsV).trans m2
 have hsV:=Nat.lt_of_lt_of_le hsV hb4'.size
 clear hb4' hb3
 go_wp2_with fail
 refine(word_one 1 ⟨#[99,111,110,116,97,105,110,115,65,110,121]⟩ _ (by unfold maxLen;decide)).mono ?_
 rintro en w5 ⟨⟨qN,cN,rfl,hN⟩,hb5'⟩
 have hX:=hX.up hb5'
 have hB:=hB.up hb5'
 have hb5:=qbt hb4 hb5'
 have m0:=(hb5'.cell (p:=⟨w.heap.size,0,none⟩) hsV).trans m0
 have m2:=(hb5'.cell (p:=⟨w.heap.size,2,none⟩) hsV).trans m2
 have hsV:=Nat.lt_of_lt_of_le hsV hb5'.size
 clear hb5' hb4
 go_wp2_with fail
 refine(glue hX hN (by omega)).mono ?_
 rintro en w6 ⟨⟨qY,cY,rfl,hY⟩,hb6'⟩
 have hB:=hB.up hb6'
 have hb6:=qbt hb5 hb6'
 have m0:=(hb6'.cell (p:=⟨w.heap.size,0,none⟩) hsV).trans m0
 have m2:=(hb6'.cell (p:=⟨w.heap.size,2,none⟩) hsV).trans m2
 have hsV:=Nat.lt_of_lt_of_le hsV hb6'.size
 clear hb6' hb5
 go_wp2_with fail
 refine(bracketed_any hB (by omega)).mono ?_
 rintro en w7 ⟨⟨qZ,cZ,rfl,hZ⟩,hb7'⟩
 have hY:=hY.up hb7'
 have hb7:=qbt hb6 hb7'
 have m0:=(hb7'.cell (p:=⟨w.heap.size,0,none⟩) hsV).trans m0
 have m2:=(hb7'.cell (p:=⟨w.heap.size,2,none⟩) hsV).trans m2
 have hsV:=Nat.lt_of_lt_of_le hsV hb7'.size
 clear hb7' hb6
 go_wp2_with fail
 refine(glue hY hZ (by omega)).mono ?_
 rintro en w8 ⟨⟨qQ,cQ,rfl,hQ⟩,hb8'⟩
 have hb8:=qbt hb7 hb8'
 have m0:=(hb8'.cell (p:=⟨w.heap.size,0,none⟩) hsV).trans m0
 have m2:=(hb8'.cell (p:=⟨w.heap.size,2,none⟩) hsV).trans m2
 have hsV:=Nat.lt_of_lt_of_le hsV hb8'.size
 clear hb8' hb7
 go_wp2
 go_ret2
 have eW:A++[⟨5,⟨#[46]⟩,0⟩]++[⟨1,⟨#[99,111,110,116,97,105,110,115,65,110,121]⟩,0⟩]++brk B=A++sgW [46]::nmW (callW 27)::brk B:=by
  rw[List.append_assoc,List.append_assoc];rfl
 have hln:=hQ.len
 rw[eW]at hln
 unfold WEnd WRet
 rw[hln]
 rw[eW]at hQ
 exact⟨⟨qQ,cQ,rfl,hQ⟩,hb8,by omega,by omega⟩
theorem wo_if {f:Nat}(hP:POk f)(e:List Nd)(p:Option Addr)(c:Nat)(w:World)(k:Nat)(x:Nd)(s t r:List Nd)(he:EArg w e p)(hx:e[k]? =some x)(hop:x.op=13)(p1:pastE f (e.drop (k+1))=some s)(p2:pastE f s=some t)(p3:pastE f t=some r):
 Calls Tryz.prog 15 #[.slice p e.length c,.int .i64 (k:Int)] w (WEnd e k r (nmW wIf::(partW (wdE f) 0 (e.drop (k+1))++nmW wThen::(partW (wdE f) 0 s++nmW wElse::partW (wdE f) 0 t))) w):=by
 have hk:k<e.length:=(List.getElem?_eq_some_iff.1 hx).1
 have hex:e[k]=x:=by rw[List.getElem?_eq_getElem hk]at hx;exact Option.some.inj hx
 have hwf:=he.nl.wfs x (List.mem_of_getElem? hx)
 obtain⟨bq,oq,hpq,hbq,e0,e1,e2,e3,_⟩:=he.nl.at hk
 rw[hex]at e0 e1 e2 e3
 subst hpq
 have hle:=he.len
 have i1:(k:Int)<(e.length:Int):=by omega
 obtain⟨op,nn,ss,tt⟩:=x
 dsimp only at hop e0 e1 e2 e3 hwf ⊢
 subst hop
 have HL:=fun w=>level_any 13 w (by omega)
 rw[show lvO 13=0 from rfl]at HL
 obtain⟨A,hAA⟩:∃A,partW (wdE f) 0 (e.drop (k+1))=A:=⟨_,rfl⟩
 rw[hAA]
 obtain⟨nA,hnA⟩:∃n,A.length=n:=⟨_,rfl⟩
 have HPA:=fun w he=>part_at hP e (some ⟨bq,oq,none⟩) c w (k+1) _ s 0 A nA _ he rfl p1 hAA hnA rfl
 have hsA:=(nd_suffix p1).2
 obtain⟨B,hAB⟩:∃A,partW (wdE f) 0 s=A:=⟨_,rfl⟩
 rw[hAB]
 obtain⟨nB,hnB⟩:∃n,B.length=n:=⟨_,rfl⟩
 have hmB:e.drop (e.length-s.length)=s:=(nd_suffix p1).1
 have HPB:=fun w he=>part_at hP e (some ⟨bq,oq,none⟩) c w (e.length-s.length) _ t 0 B nB _ he hmB p2 hAB hnB rfl
 have hsB:=(nd_suffix (show pastE f (e.drop (e.length-s.length))=some t by rw[hmB];exact p2)).2
 obtain⟨C,hAC⟩:∃A,partW (wdE f) 0 t=A:=⟨_,rfl⟩
 rw[hAC]
 obtain⟨nC,hnC⟩:∃n,C.length=n:=⟨_,rfl⟩
 have hmC:e.drop (e.length-t.length)=t:=(nd_suffix (show pastE f (e.drop (e.length-s.length))=some t by rw[hmB];exact p2)).1
 have HPC:=fun w he=>part_at hP e (some ⟨bq,oq,none⟩) c w (e.length-t.length) _ r 0 C nC _ he hmC p3 hAC hnC rfl
 have hsC:=(nd_suffix (show pastE f (e.drop (e.length-t.length))=some r by rw[hmC];exact p3)).2
 have hbV:Below w.heap.size w (w.alloc (.cells #[.int .i64 13,.int .i64 nn,.string ss,.string tt] 29)):=(Below.refl _ _).alloc (Nat.le_refl _) _
 have hsV:w.heap.size<(w.alloc (.cells #[.int .i64 13,.int .i64 nn,.string ss,.string tt] 29)).heap.size:=by simp
 have m0:(w.alloc (.cells #[.int .i64 13,.int .i64 nn,.string ss,.string tt] 29)).cell? ⟨w.heap.size,0,none⟩=some (.int .i64 13):=by simp
 have m2:(w.alloc (.cells #[.int .i64 13,.int .i64 nn,.string ss,.string tt] 29)).cell? ⟨w.heap.size,2,none⟩=some (.string ss):=by simp
 have HE:Hid (∀w',Below w.heap.size w w'→EArg w' e (some ⟨bq,oq,none⟩)):=fun w' hb=>he.up hb
 clear hAA hnA hAB hnB hAC hnC he hx hex hP
 go_enter Tryz.func15,Tryz.ntmps15
 go_wp2_with (go_at_call 23;refine(HL _).mono ?_;rintro en w' ⟨rfl,rfl⟩)
 generalize hV:w.alloc (.cells #[.int .i64 13,.int .i64 nn,.string ss,.string tt] 29)=V at *
 clear hV e0 e1 e2 e3
 refine(HPA _ (HE.out _ hbV)).mono ?_
 rintro en w1 ⟨⟨qA,cA,rfl,hA⟩,hb1',lA,uA⟩
 clear HPA
 have hb1:=qbt hbV hb1'
 clear hb1' hbV
 go_wp2_with fail
 refine(HPB _ (HE.out _ hb1)).mono ?_
 rintro en w2 ⟨⟨qB,cB,rfl,hB⟩,hb2',lB,uB⟩
 clear HPB
 have hA:=hA.up hb2'
 have hb2:=qbt hb1 hb2'
 clear hb2' hb1
 go_wp2_with fail
 refine(HPC _ (HE.out _ hb2)).mono ?_
 rintro en w3 ⟨⟨qC,cC,rfl,hC⟩,hb3',lC,uC⟩
 clear HPC
 have hA:=hA.up hb3'
 have hB:=hB.up hb3'
 have hb3:=qbt hb2 hb3'
 clear hb3' hb2
 go_wp2_with fail
 refine(word_one 1 ⟨#[105,102]⟩ _ (by unfold maxLen;decide)).mono ?_
 rintro en w4 ⟨⟨qI,cI,rfl,hI⟩,hb4'⟩
 have hA:=hA.up hb4'
 have hB:=hB.up hb4'
 have hC:=hC.up hb4'
 have hb4:=qbt hb3 hb4'
 clear hb4' hb3
 go_wp2_with fail
 refine(glue hI hA (by omega)).mono ?_
 rintro en w5 ⟨⟨qX,cX,rfl,hX⟩,hb5'⟩
 have hB:=hB.up hb5'
 have hC:=hC.up hb5'
 have hb5:=qbt hb4 hb5'
 clear hb5' hb4
 go_wp2_with fail
 refine(word_one 1 ⟨#[116,104,101,110]⟩ _ (by unfold maxLen;decide)).mono ?_
 rintro en w6 ⟨⟨qT,cT,rfl,hT⟩,hb6'⟩
 have hB:=hB.up hb6'
 have hC:=hC.up hb6'
 have hX:=hX.up hb6'
 have hb6:=qbt hb5 hb6'
 clear hb6' hb5
 go_wp2_with fail
 refine(glue hT hB (by omega)).mono ?_
 rintro en w7 ⟨⟨qY,cY,rfl,hY⟩,hb7'⟩
 have hC:=hC.up hb7'
 have hX:=hX.up hb7'
 have hb7:=qbt hb6 hb7'
 clear hb7' hb6
 go_wp2_with fail
 refine(glue hX hY (by omega)).mono ?_
 rintro en w8 ⟨⟨qZ,cZ,rfl,hZ⟩,hb8'⟩
 have hC:=hC.up hb8'
 have hb8:=qbt hb7 hb8'
 clear hb8' hb7
 go_wp2_with fail
 refine(word_one 1 ⟨#[101,108,115,101]⟩ _ (by unfold maxLen;decide)).mono ?_
 rintro en w9 ⟨⟨qE,cE,rfl,hE⟩,hb9'⟩
 have hC:=hC.up hb9'
 have hZ:=hZ.up hb9'
 have hb9:=qbt hb8 hb9'
 clear hb9' hb8
 go_wp2_with fail
 refine(glue hE hC (by omega)).mono ?_
 rintro en w10 ⟨⟨qU,cU,rfl,hU⟩,hb10'⟩
 have hZ:=hZ.up hb10'
 have hb10:=qbt hb9 hb10'
 clear hb10' hb9
 go_wp2_with fail
 refine(glue hZ hU (by omega)).mono ?_
 rintro en w11 ⟨⟨qR,cR,rfl,hR⟩,hb11'⟩
 have hb11:=qbt hb10 hb11'
 clear hb11' hb10
 go_wp2
 go_ret2
 have eW:[⟨1,⟨#[105,102]⟩,0⟩]++A++([⟨1,⟨#[116,104,101,110]⟩,0⟩]++B)++([⟨1,⟨#[101,108,115,101]⟩,0⟩]++C)=nmW wIf::(A++nmW wThen::(B++nmW wElse::C)):=by
  simp only[List.append_assoc,List.cons_append,List.nil_append];rfl
 have hln:=hR.len
 rw[eW]at hln
 unfold WEnd WRet
 rw[hln]
 rw[eW]at hR
 exact⟨⟨qR,cR,rfl,hR⟩,hb11,by omega,by omega⟩
theorem wo_atom (e:List Nd)(p:Option Addr)(c:Nat)(w:World)(k:Nat)(x:Nd)(r:List Nd)(W:List Tk)(he:EArg w e p)(hx:e[k]? =some x)
 (hop:x.op=1∨x.op=2∨x.op=3∨x.op=4∨x.op=5∨x.op=6∨x.op=8)
 (HA:∀w1,EArg w1 e p→Calls Tryz.prog 29 #[.slice p e.length c,.int .i64 (k:Int)] w1 (WEnd e k r W w1)):
 Calls Tryz.prog 15 #[.slice p e.length c,.int .i64 (k:Int)] w (WEnd e k r W w):=by
 have hk:k<e.length:=(List.getElem?_eq_some_iff.1 hx).1
 have hex:e[k]=x:=by rw[List.getElem?_eq_getElem hk]at hx;exact Option.some.inj hx
 obtain⟨bq,oq,hpq,hbq,e0,e1,e2,e3,_⟩:=he.nl.at hk
 rw[hex]at e0 e1 e2 e3
 subst hpq
 have i1:(k:Int)<(e.length:Int):=by omega
 obtain⟨op,nn,ss,tt⟩:=x
 dsimp only at hop e0 e1 e2 e3
 have HL:∀w,Calls Tryz.prog 23 #[.int .i64 op] w fun en w'=>en= .returned (.int .i64 8)∧w'=w:=by
  intro w
  have:=level_any op w (by omega)
  rwa [show lvO op=8 by rcases hop with rfl | rfl | rfl | rfl | rfl | rfl | rfl<;>rfl]at this
 have HE:Hid (∀w',Below w.heap.size w w'→EArg w' e (some ⟨bq,oq,none⟩)):=fun w' hb=>he.up hb
 clear he hx hex
 rcases hop with rfl | rfl | rfl | rfl | rfl | rfl | rfl
 all_goals
  go_enter Tryz.func15,Tryz.ntmps15
  go_wp2_with (go_at_call 23;refine(HL _).mono ?_;rintro en w' ⟨rfl,rfl⟩)
  refine(HA _ (HE.out _ ((Below.refl _ _).alloc (Nat.le_refl _) _))).mono ?_
  rintro en w1 ⟨⟨q1,c1,rfl,h1⟩,hb1,l0,l1⟩
  go_wp2
  go_ret2
  exact⟨⟨q1,c1,rfl,h1⟩,qbt ((Below.refl _ _).alloc (Nat.le_refl _) _) hb1,l0,l1⟩
theorem words_ok {f:Nat}(hW:WOk f):WOk (f+1):=by
 have hP:=part_words hW
 intro e p c w k r he hp
 obtain⟨g',x,m,e1,hv,h7,hx,hr⟩:=pastE_cons hp
 obtain rfl:f=g':=by omega
 have hxk:e[k]? =some x:=by
  have:=congrArg List.head? hv
  rwa [List.head?_drop,List.head?_cons]at this
 have hm:e.drop (k+1)=m:=by
  have:=congrArg List.tail hv
  rwa [List.tail_drop,List.tail_cons]at this
 have hk:k<e.length:=(List.getElem?_eq_some_iff.1 hxk).1
 have hmem:x∈e:=List.mem_of_getElem? hxk
 have hn64:=he.n64 x hmem
 have hr1:=ex_rng hx
 have hle:=he.len
 rw[hv]
 suffices HB:Calls Tryz.prog 15 #[.slice p e.length c,.int .i64 (k:Int)] w (WEnd e k r (wdE (f+1) (x::m)) w) by
  refine HB.mono ?_
  rintro en w' ⟨h1,hb,l1,l2⟩
  exact⟨h1,hb,l1,by omega⟩
 clear hp hv
 have one:1≤(prt x).toNat→x.op≠6→∃s1,pastE f m=some s1∧partsE (pastE f) ((prt x).toNat-1) s1=some r:=by
  intro h1 h6
  rcases hr with⟨h6',_⟩ | ⟨_,hp⟩
  · exact absurd h6' h6
  · cases hk:(prt x).toNat with
    | zero=>omega
    | succ d=>
      rw[hk]at hp
      obtain⟨s1,p1,hp⟩:=partsE_one hp
      exact⟨s1,p1,hp⟩
 have just1:(prt x).toNat=1→x.op≠6→pastE f m=some r:=by
  intro h1 h6
  obtain⟨s1,p1,hp⟩:=one (by omega) h6
  rw[h1]at hp
  rw[p1,partsE_end hp]
 have just2:(prt x).toNat=2→x.op≠6→∃s1,pastE f m=some s1∧pastE f s1=some r:=by
  intro h1 h6
  obtain⟨s1,p1,hp⟩:=one (by omega) h6
  rw[h1]at hp
  obtain⟨s2,p2,hp⟩:=partsE_one hp
  exact⟨s1,p1,by rw[p2,partsE_end hp]⟩
 subst hm
 rw[wdE]
 by_cases c13:x.op=13
 · rw[if_pos c13]
   have e3:(prt x).toNat=3:=by unfold prt;rw[c13];rfl
   obtain⟨s1,p1,hp1⟩:=one (by omega) (by omega)
   rw[e3]at hp1
   obtain⟨s2,p2,hp2⟩:=partsE_one hp1
   obtain⟨s3,p3,hp3⟩:=partsE_one hp2
   have:=partsE_end hp3
   subst this
   have HB:=wo_if hP e p c w k x s1 s2 s3 he hxk c13 p1 p2 p3
   rw[part0r,part0r,part0r]at HB
   rw[nxt_of p1,nxt_of p2]
   exact HB
 rw[if_neg c13]
 by_cases cl:lvO x.op=1∨lvO x.op=2∨lvO x.op=4∨lvO x.op=5
 · rw[if_pos cl]
   have ho:11≤x.op∧x.op≤19:=by
    unfold lvO at cl
    repeat' split at cl
    all_goals omega
   have e3:(prt x).toNat=2:=by
    unfold prt
    rw[if_neg (by omega),if_neg (by omega),if_neg (by omega),if_neg (by omega),if_pos (by omega)];rfl
   obtain⟨s1,p1,p2⟩:=just2 e3 (by omega)
   rw[nxt_of p1]
   rcases cl with c1 | c1 | c1 | c1
   · have o:=lv1 c1
     rw[c1]
     have HB:=wo_or hP e p c w k x s1 r he hxk o p1 p2
     rw[←o]at HB
     exact HB
   · have o:=lv2 c1
     rw[c1]
     have HB:=wo_and hP e p c w k x s1 r he hxk o p1 p2
     rw[←o]at HB
     exact HB
   · rw[c1]
     rcases lv4 c1 with o | o
     · have HB:=wo_add hP e p c w k x s1 r he hxk o p1 p2
       rw[←o]at HB
       exact HB
     · have HB:=wo_sub hP e p c w k x s1 r he hxk o p1 p2
       rw[←o]at HB
       exact HB
   · have o:=lv5 c1
     rw[c1]
     have HB:=wo_mul hP e p c w k x s1 r he hxk o p1 p2
     rw[←o]at HB
     exact HB
 rw[if_neg cl]
 by_cases c3:lvO x.op=3
 · rw[if_pos c3]
   have ho:14≤x.op∧x.op≤16∨x.op=20∨x.op=21∨x.op=23∨x.op=24:=by
    unfold lvO at c3
    repeat' split at c3
    all_goals omega
   by_cases ctwo:14≤x.op∧x.op≤16∨x.op=20
   · have e3:(prt x).toNat=2:=by
      unfold prt
      rw[if_neg (by omega),if_neg (by omega),if_neg (by omega),if_neg (by omega),if_pos (by omega)];rfl
     obtain⟨s1,p1,p2⟩:=just2 e3 (by omega)
     rw[if_neg (by omega),if_neg (by omega),if_neg (by omega),nxt_of p1]
     have o4:x.op=14∨x.op=15∨x.op=16∨x.op=20:=by omega
     rcases o4 with o | o | o | o
     · have HB:=wo_eq hP e p c w k x s1 r he hxk o p1 p2
       rw[←o]at HB
       exact HB
     · have HB:=wo_lt hP e p c w k x s1 r he hxk o p1 p2
       rw[←o]at HB
       exact HB
     · have HB:=wo_le hP e p c w k x s1 r he hxk o p1 p2
       rw[←o]at HB
       exact HB
     · have HB:=wo_in hP e p c w k x s1 r he hxk o p1 p2
       rw[←o]at HB
       exact HB
   · have e3:(prt x).toNat=1:=by
      unfold prt
      rw[if_neg (by omega),if_neg (by omega),if_pos (by omega)];rfl
     have p1:=just1 e3 (by omega)
     by_cases c21:x.op=21
     · rw[if_pos c21]
       exact wo_has hP e p c w k x r he hxk c21 p1
     rw[if_neg c21]
     by_cases c24:x.op=24
     · rw[if_pos c24]
       exact wo_is hP e p c w k x r he hxk c24 p1
     rw[if_neg c24,if_pos (by omega)]
     exact wo_like hP e p c w k x r he hxk (by omega) p1
 rw[if_neg c3]
 by_cases c9:x.op=9∨x.op=10
 · have e3:(prt x).toNat=1:=by
    unfold prt
    rw[if_neg (by omega),if_neg (by omega),if_pos (by omega)];rfl
   have p1:=just1 e3 (by omega)
   rcases c9 with o | o
   · rw[if_pos o]
     exact wo_not hP e p c w k x r he hxk o p1
   · rw[if_neg (by omega),if_pos o]
     exact wo_neg hP e p c w k x r he hxk o p1
 rw[if_neg (by omega),if_neg (by omega)]
 by_cases c7:lvO x.op=7
 · rw[if_pos c7]
   have ho:x.op=22∨25≤x.op∧x.op≤27:=by
    unfold lvO at c7
    repeat' split at c7
    all_goals omega
   by_cases o:x.op=22
   · have e3:(prt x).toNat=1:=by
      unfold prt
      rw[if_neg (by omega),if_neg (by omega),if_pos (by omega)];rfl
     have p1:=just1 e3 (by omega)
     rw[if_pos o]
     exact wo_get hP e p c w k x r he hxk o p1
   · have e3:(prt x).toNat=2:=by
      unfold prt
      rw[if_neg (by omega),if_neg (by omega),if_neg (by omega),if_neg (by omega),if_pos (by omega)];rfl
     obtain⟨s1,p1,p2⟩:=just2 e3 (by omega)
     rw[if_neg o,nxt_of p1]
     have o3:x.op=25∨x.op=26∨x.op=27:=by omega
     rcases o3 with o | o | o
     · have HB:=wo_one hP e p c w k x s1 r he hxk o p1 p2
       rw[←o,part0r]at HB
       exact HB
     · have HB:=wo_all hP e p c w k x s1 r he hxk o p1 p2
       rw[←o,part0r]at HB
       exact HB
     · have HB:=wo_any hP e p c w k x s1 r he hxk o p1 p2
       rw[←o,part0r]at HB
       exact HB
 rw[if_neg c7]
 have hlv:lvO x.op=8:=by
  have:=lvO_le x.op
  have h0:lvO x.op≠0:=fun h=>c13 (lv0 h)
  have h6:lvO x.op≠6:=fun h=>c9 (lv6 h)
  omega
 have hop:x.op=1∨x.op=2∨x.op=3∨x.op=4∨x.op=5∨x.op=6∨x.op=8:=by
  unfold lvO at hlv
  repeat' split at hlv
  all_goals omega
 refine wo_atom e p c w k x r _ he hxk hop (fun w1 he1=>?_)
 by_cases c5:x.op=5
 · rw[if_pos c5]
   rcases hr with⟨h6,_⟩ | ⟨_,hp⟩
   · omega
   have hnd:=ex_value hx (by omega)
   have hn0:0≤x.n:=by
    unfold ndOk at hnd
    rw[if_neg (by omega),if_neg (by omega),if_neg (by omega),if_neg (by omega),if_pos (by omega)]at hnd
    simp at hnd
    exact hnd.2
   have e3:prt x=x.n:=by unfold prt;rw[if_pos (by omega)]
   rw[e3]at hp
   have hcn:x.n.toNat≤200:=by
    have:=partsE_count hp
    rw[List.length_drop]at this
    omega
   exact aw_set hW e p c w1 k x r he1 hxk c5 hn0 hcn hp
 rw[if_neg c5]
 by_cases c6:x.op=6
 · rw[if_pos c6]
   rcases hr with⟨_,hp⟩ | ⟨h6,_⟩
   · have hnd:=ex_value hx (by omega)
     have hn0:0≤x.n:=by
      unfold ndOk at hnd
      rw[if_neg (by omega),if_neg (by omega),if_neg (by omega),if_neg (by omega),if_pos (by omega)]at hnd
      simp at hnd
      exact hnd.2
     have hcn:x.n.toNat≤200:=by
      have:=recLoop_count hp
      rw[List.length_drop]at this
      omega
     exact aw_rec hW e p c w1 k x r he1 hxk c6 hn0 hcn ⟨#[]⟩ hp
   · exact absurd c6 h6
 rw[if_neg c6]
 have e3:(prt x).toNat=0:=by
  unfold prt
  rw[if_neg (by omega),if_pos (by omega)];rfl
 have hmr:e.drop (k+1)=r:=by
  rcases hr with⟨h6,_⟩ | ⟨_,hp⟩
  · exact absurd h6 c6
  · rw[e3]at hp;exact partsE_end hp
 subst hmr
 unfold atomW
 by_cases o1:x.op=1
 · rw[if_pos o1];exact aw_bool e p c w1 k x he1 hxk o1
 rw[if_neg o1]
 by_cases o2:x.op=2
 · rw[if_pos o2];exact aw_num e p c w1 k x he1 hxk o2
 rw[if_neg o2]
 by_cases o3:x.op=3
 · rw[if_pos o3];exact aw_text e p c w1 k x he1 hxk o3
 rw[if_neg o3]
 by_cases o4:x.op=4
 · rw[if_pos o4];exact aw_ent e p c w1 k x he1 hxk o4
 rw[if_neg o4]
 exact aw_var e p c w1 k x he1 hxk (by omega) (fun h0=>by have h1:=ex_var hx (by omega);rw[h0]at h1;revert h1;decide)
theorem all_words:∀f,WOk f
 | 0=>fun e p c w k r he hp=>by simp[pastE]at hp
 | f+1=>words_ok (all_words f)
def PrintR (R:Except Int (List Tk))(en:Ending)(w':World):Prop:=
 match R with
 | .ok ts=>∃q cc,en= .returned (.tuple #[.slice q ts.length cc,.int .i64 0])∧TKL w' q ts
 | .error n=>en= .returned (.tuple #[.slice none 0 0,.int .i64 n])
theorem refPrinted_any (e:List Nd)(p:Option Addr)(c:Nat)(w:World)(h:NL w p e)(hl:e.length≤maxLen)(hN:∀x∈e,n64 x):
 Calls Tryz.prog 8 #[.slice p e.length c] w fun en w'=>PrintR (printL e) en w'∧Below w.heap.size w w':=by
 have HF:=refFault_any e p c w h hl
 unfold printL
 by_cases hx:xfault e=0
 · rw[if_pos hx]
   rw[hx]at HF
   obtain⟨hl2,hpast⟩:=xfault_zero hx
   have HW:=fun w1 he=>all_words (e.length+1) e p c w1 0 [] he (by rw[List.drop_zero];exact hpast)
   rw[List.drop_zero]at HW
   have HWd:Hid (wdE (e.length+1) e=wrd e):=rfl
   rw[HWd.out]at HW
   have HE:Hid (∀w',Below w.heap.size w w'→EArg w' e p):=fun w' hb=>⟨h.up hb,hl2,hN⟩
   clear HWd hpast h hN hx
   generalize wrd e=ts at *
   obtain⟨tn,htn⟩:∃n,ts.length=n:=⟨_,rfl⟩
   rw[htn]at HW ⊢
   by_cases h3:300<tn
   · rw[if_pos h3]
     have i3:(300:Int)<(tn:Int):=by omega
     go_enter Tryz.func8,Tryz.ntmps8
     go_wp2_with fail
     refine HF.mono ?_
     rintro en w1 ⟨rfl,hb1⟩
     go_wp2_with fail
     refine(HW _ (HE.out _ hb1)).mono ?_
     rintro en w2 ⟨⟨q2,c2,rfl,h2⟩,hb2,l0,l1⟩
     go_wp2
     go_ret2
     exact⟨rfl,qbt hb1 hb2⟩
   · rw[if_neg h3]
     have i3:¬(300:Int)<(tn:Int):=by omega
     go_enter Tryz.func8,Tryz.ntmps8
     go_wp2_with fail
     refine HF.mono ?_
     rintro en w1 ⟨rfl,hb1⟩
     go_wp2_with fail
     refine(HW _ (HE.out _ hb1)).mono ?_
     rintro en w2 ⟨⟨q2,c2,rfl,h2⟩,hb2,l0,l1⟩
     go_wp2
     go_ret2
     exact⟨⟨q2,c2,by rw[htn];rfl,h2.tk⟩,qbt hb1 hb2⟩
 · rw[if_neg hx]
   have hx':(xfault e != 0)=true:=by simpa using hx
   clear hx
   generalize xfault e=k at *
   go_enter Tryz.func8,Tryz.ntmps8
   go_wp2_with fail
   refine HF.mono ?_
   rintro en w1 ⟨rfl,hb1⟩
   go_wp2
   go_ret2
   exact⟨rfl,hb1⟩
theorem PrintR.any {R:Except Int (List Tk)}{e:Ending}{w':World}(h:PrintR R e w'):∃q n c k,e= .returned (.tuple #[.slice q n c,.int .i64 k]):=by
 cases R with
 | ok x=>obtain⟨q,cc,rfl,_⟩:=h;exact⟨q,_,cc,_,rfl⟩
 | error y=>exact⟨none,0,0,_,h⟩
end Go.Proofs.YtgbljlabifpmgaaGreatDoor
