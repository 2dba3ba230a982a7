import Derived.Test.YtlnhaajjoplafaaGreatDoorT11
import Derived.Test.YtlnhaajjoplafaaGreatDoorT9
import Derived.Test.YtlnhaajjoplafaaGreatDoorT20
import Derived.Deep.RegionWith
import Derived.Defers
import Derived.Recover
import Derived.Laws.Pointers
import Derived.BigQuiet
import Derived.Test.YtlnhaajjoplafaaGreatDoorT2
import Derived.Lib.SliceRun
import Derived.Test.YtlnhaajjoplafaaGreatDoorT4
import Derived.Test.YtlnhaajjoplafaaGreatDoorT1
import Derived.Test.YtlnhaajjoplafaaGreatDoorT3
import Derived.Test.YtlnhaajjoplafaaGreatDoorT10
import Derived.Test.YtlnhaajjoplafaaGreatDoorShelfSort
set_option linter.unusedVariables false
set_option maxHeartbeats 12000000
namespace Go.Proofs.YtlnhaajjoplafaaGreatDoor
open Go.RowKit
def tailV (b off c n m:Nat):Value:=.slice (some ⟨b,off+4*min (n-m) (c-1),none⟩) m (c-(n-m))
def Past (b off c n:Nat):Option (List Nd)→Ending
 | some r=>.returned (tailV b off c n r.length)
 | none=>.panicked thrown
theorem NL.drop {w:World}{b off:Nat}{v r:List Nd}(h:NL w (some ⟨b,off,none⟩) v)(ht:IsTail r v)(c:Nat)(hc:v.length≤c):NL w (some ⟨b,off+4*min (v.length-r.length) (c-1),none⟩) r:=by
 obtain⟨a,rfl⟩:=ht
 cases r with
 | nil=>exact .inl rfl
 | cons y r=>
   rcases h with h | ⟨b',off',h1,h2,h3⟩
   · simp at h
   · cases h1
     refine .inr ⟨_,_,rfl,h2,fun i x hx=>?_⟩
     have hl:(a++y::r).length-(y::r).length=a.length:=by simp
     have hm:min ((a++y::r).length-(y::r).length) (c-1)=a.length:=by
      rw[hl];simp at hc;omega
     have:=h3 (a.length+i) x (by rw[List.getElem?_append_right (by omega)];simpa using hx)
     rw[hm]
     rw[show off+(a.length+i)*4=off+4*a.length+i*4 by omega]at this
     exact this
theorem setLoop_none {pv:List Nd→Option (List Nd)}{n k:Nat}(h:k<n){last:Option (List Nd)}{v:List Nd}(e:pv v=none):setLoop pv (n-k) last v=none:=by
 rw[show n-k=(n-(k+1))+1 by omega];simp only[setLoop,e]
theorem setLoop_some {pv:List Nd→Option (List Nd)}{n k:Nat}(h:k<n){last:Option (List Nd)}{v rest:List Nd}(e:pv v=some rest):
 setLoop pv (n-k) last v=if aheadOf last (v.take (v.length-rest.length))then setLoop pv (n-(k+1)) (some (v.take (v.length-rest.length))) rest else none:=by
 rw[show n-k=(n-(k+1))+1 by omega];simp only[setLoop,e]
def PastOk (f:Nat):Prop:=∀(v:List Nd) (b off c:Nat) (w:World),v.length<f→NL w (some ⟨b,off,none⟩) v→v.length≤c→c≤maxLen→
 Calls Tryz.prog 75 #[.slice (some ⟨b,off,none⟩) v.length c] w fun e w'=>e=Past b off c v.length (pastV f v)∧Below w.heap.size w w'
theorem tailV_next {b off c n m k:Nat}(h1:m≤n)(h2:n≤c)(h3:k<m):tailV b (off+4*min (n-m) (c-1)) (c-(n-m)) m k=tailV b off c n k:=by
 unfold tailV
 rw[show off+4*min (n-m) (c-1)+4*min (m-k) (c-(n-m)-1)=off+4*min (n-k) (c-1) by omega,show c-(n-m)-(m-k)=c-(n-k) by omega]
theorem tailV_all {b off c n:Nat}:tailV b off c n n= .slice (some ⟨b,off,none⟩) n c:=by
 unfold tailV
 rw[show off+4*min (n-n) (c-1)=off by omega,show c-(n-n)=c by omega]
set_option maxRecDepth 100000 in
theorem pastSet_any (f:Nat)(ih:PastOk f)(v:List Nd)(b off c:Nat)(cnt:Int)(w:World)(hf:v.length<f)(hv:NL w (some ⟨b,off,none⟩) v)(hc:v.length≤c)(hcm:c≤maxLen)(h0:0≤cnt)(h1:cnt≤9223372036854775807):
 Calls Tryz.prog 112 #[.slice (some ⟨b,off,none⟩) v.length c,.int .i64 cnt] w fun e w'=>e=Past b off c v.length (setLoop (pastV f) cnt.toNat none v)∧Below w.heap.size w w':=by
 unfold maxLen at hcm
 generalize hR:setLoop (pastV f) cnt.toNat none v=R
 have HR:Hid (_=_):=hR
 clear hR
 go_enter Tryz.func112,Tryz.ntmps112
 go_wp2
 go_loopw [0,5,10] (fun sv sl i wr=>∃(k:Nat) (u:List Nd) (last:Option (List Nd)) (pl:Option Addr) (nl cl:Nat),
  (k:Int)≤cnt∧i= .int .i64 k∧sv=tailV b off c v.length u.length∧Hid (IsTail u v)∧
  sl= .slice pl nl cl∧Hid (last=none↔k=0)∧Hid (∀l,last=some l→l.length=nl∧NL wr pl l∧nl≤9223372036854775807)∧Hid (setLoop (pastV f) (cnt.toNat-k) last u=R)∧Below w.heap.size w wr) (fun _ _ i _=>cnt.toNat-(intOf i).toNat)
 case atStart=>exact⟨0,v,none,none,0,0,by simpa using h0,rfl,tailV_all.symm,IsTail.refl _,rfl,(iff_of_true rfl rfl:_),(fun l h=>by cases h),HR,Below.refl _ _⟩
 case round=>
  obtain⟨k,u,last,pl,nl,cl,hk,rfl,rfl,HT,rfl,HL0,HL,HS,hb⟩:=hrel
  have hul:=HT.out.length
  have hu:=(hv.up hb).drop HT.out c hc
  by_cases hlt:(k:Int)<cnt
  · have hkn:k<cnt.toNat:=by omega
    have hpast:=ih u b (off+4*min (v.length-u.length) (c-1)) (c-(v.length-u.length)) wr (by omega) hu (by omega) (by unfold maxLen;omega)
    unfold tailV
    go_wp2_with fail
    refine hpast.mono ?_
    rintro e w1 ⟨rfl,hb1⟩
    have hb2:Below w.heap.size w w1:=hb.trans (hb1.mono hb.size)
    cases hv2:pastV f u with
    | none=>
      have HN:Hid (none=R):=by rw[←HS.out,setLoop_none hkn hv2];rfl
      clear hv2 HS HR hpast
      unfold Past
      go_wp2
      exact⟨rfl,by rw[←HN.out];rfl,hb2⟩
    | some rest=>
      obtain⟨hsh,htl⟩:=pastV_shorter hv2
      have HN:Hid (_=_):=(setLoop_some (last:=last) hkn hv2).symm.trans HS.out
      have hu1:=hu.up hb1
      have HP:Hid ((u.take (u.length-rest.length)).length=u.length-rest.length):=by show _=_;simp
      have HX:Hid (_=_):=tailV_next (b:=b) (off:=off) (c:=c) (n:=v.length) (m:=u.length) (k:=rest.length) hul hc hsh
      clear hv2 HS HR hpast
      unfold Past
      simp only[]
      rw[HX.out]
      unfold tailV
      generalize off+4*min (v.length-u.length) (c-1)=uo at *
      generalize hcu:c-(v.length-u.length)=cu at *
      have HCU:Hid (_=_):=hcu
      have hcu1:u.length≤cu:=by omega
      clear hcu
      cases last with
      | none=>
        obtain rfl:k=0:=HL0.out.1 rfl
        go_wp2_with fail
        refine(need_true _).mono ?_
        rintro e w2 ⟨rfl,rfl⟩
        go_wp2
        go_roundw
        case rel=>
         refine⟨1,rest,some (u.take (u.length-rest.length)),_,u.length-rest.length,_,by omega,by go_num,rfl,htl.trans HT.out,rfl,?_,?_,?_,hb2⟩
         · show(_↔_);exact iff_of_false (by simp) (by simp)
         · intro l hl;cases hl;exact⟨HP.out,hu1.take _,by omega⟩
         · have:=HN.out;rw[show aheadOf none (u.take (u.length-rest.length))=true from rfl,if_pos rfl]at this;exact this
        case measure=>simp[intOf];omega
      | some l=>
        have hk0:k≠0:=fun h=>by have:=HL0.out.2 h;cases this
        obtain⟨rfl,hl,hnl⟩:=HL.out l rfl
        have e0:((k:Int) == 0)=false:=by simp;omega
        have ho:=order_any l (u.take (u.length-rest.length)) pl (some ⟨b,uo,none⟩) cl cu w1 (hl.up hb1) (hu1.take _) (by unfold maxLen;omega) (by rw[HP.out];unfold maxLen;omega)
        rw[HP.out]at ho
        generalize hm:u.take (u.length-rest.length)=m at ho HN HP
        have HM2:Hid (_=_):=hm
        clear hm
        go_wp2_with fail
        refine ho.mono ?_
        rintro e w2 ⟨rfl,hu2⟩
        have hb3:Below w.heap.size w w2:=hb2.trans (hu2.1.mono hb2.size)
        cases hlt0:decide (lsC l m<0)
        · go_wp2_with fail
          refine(need_false _).mono ?_
          rintro e w3 ⟨rfl,rfl⟩
          go_wp2
          refine⟨rfl,?_,hb3⟩
          have:=HN.out;rw[show aheadOf (some l) m=false by simpa only[aheadOf]using hlt0,if_neg (by simp)]at this
          rw[←this];rfl
        · go_wp2_with fail
          refine(need_true _).mono ?_
          rintro e w3 ⟨rfl,rfl⟩
          go_wp2
          go_roundw
          case rel=>
           refine⟨k+1,rest,some m,_,u.length-rest.length,_,by omega,by go_num,rfl,htl.trans HT.out,rfl,?_,?_,?_,hb3⟩
           · show(_↔_);exact iff_of_false (by simp) (by simp)
           · intro l hl;cases hl;exact⟨HP.out,by rw[←HM2.out];exact(hu1.take _).up hu2.1,by omega⟩
           · have:=HN.out;rw[show aheadOf (some l) m=true by simpa only[aheadOf]using hlt0,if_pos rfl]at this;exact this
          case measure=>simp[intOf];omega
  · have HN:Hid (some u=R):=by
     have:=HS.out
     rw[show cnt.toNat-k=0 by omega]at this
     exact this
    clear HS HR
    go_wp2
    go_ret
    exact⟨by rw[←HN.out];rfl,hb⟩
theorem recLoop_nil {pv:List Nd→Option (List Nd)}{n k:Nat}(h:k<n){last:ByteArray}:recLoop pv (n-k) last []=none:=by
 rw[show n-k=(n-(k+1))+1 by omega];rfl
theorem recLoop_bad {pv:List Nd→Option (List Nd)}{n k:Nat}(h:k<n){last:ByteArray}{x:Nd}{r:List Nd}(e:¬(x.op=7∧ndOk x=true∧cmpB last x.s<0)):recLoop pv (n-k) last (x::r)=none:=by
 rw[show n-k=(n-(k+1))+1 by omega];simp only[recLoop,if_neg e]
theorem recLoop_go {pv:List Nd→Option (List Nd)}{n k:Nat}(h:k<n){last:ByteArray}{x:Nd}{r:List Nd}(e:x.op=7∧ndOk x=true∧cmpB last x.s<0):
 recLoop pv (n-k) last (x::r)=match pv r with | none=>none | some rest=>recLoop pv (n-(k+1)) x.s rest:=by
 rw[show n-k=(n-(k+1))+1 by omega];simp only[recLoop,if_pos e];cases pv r<;>rfl
set_option maxRecDepth 100000 in
theorem pastRec_any (f:Nat)(ih:PastOk f)(v:List Nd)(b off c:Nat)(cnt:Int)(w:World)(hf:v.length<f)(hv:NL w (some ⟨b,off,none⟩) v)(hbw:b<w.heap.size)(hc:v.length≤c)(hcm:c≤maxLen)(h0:0≤cnt)(h1:cnt≤9223372036854775807):
 Calls Tryz.prog 113 #[.slice (some ⟨b,off,none⟩) v.length c,.int .i64 cnt] w fun e w'=>e=Past b off c v.length (recLoop (pastV f) cnt.toNat ⟨#[]⟩ v)∧Below w.heap.size w w':=by
 unfold maxLen at hcm
 generalize hR:recLoop (pastV f) cnt.toNat ⟨#[]⟩ v=R
 have HR:Hid (_=_):=hR
 clear hR
 go_enter Tryz.func113,Tryz.ntmps113
 go_wp2
 go_loopw [0,5,7] (fun sv sl i wr=>∃(k:Nat) (u:List Nd) (last:ByteArray),
  (k:Int)≤cnt∧i= .int .i64 k∧sv=tailV b off c v.length u.length∧Hid (IsTail u v)∧
  sl= .string last∧Hid (recLoop (pastV f) (cnt.toNat-k) last u=R)∧Below w.heap.size w wr) (fun _ _ i _=>cnt.toNat-(intOf i).toNat)
 case atStart=>exact⟨0,v,_,by simpa using h0,rfl,tailV_all.symm,IsTail.refl _,rfl,HR,Below.refl _ _⟩
 case round=>
  obtain⟨k,u,last,hk,rfl,rfl,HT,rfl,HS,hb⟩:=hrel
  have hul:=HT.out.length
  have hu:=(hv.up hb).drop HT.out c hc
  by_cases hlt:(k:Int)<cnt
  · have hkn:k<cnt.toNat:=by omega
    unfold tailV
    cases u with
    | nil=>
      have HN:Hid (none=R):=(recLoop_nil hkn).symm.trans HS.out
      clear HS HR
      go_wp2_with fail
      refine(need_false _).mono ?_
      rintro e w3 ⟨rfl,rfl⟩
      go_wp2
      exact⟨rfl,by rw[←HN.out];rfl,hb⟩
    | cons x r=>
      have HX2:Hid (∀m,m<r.length+1→tailV b (off+4*min (v.length-(x::r).length) (c-1)) (c-(v.length-(x::r).length)) (x::r).length m=tailV b off c v.length m):=fun m hm=>tailV_next hul hc (by simpa using hm)
      generalize off+4*min (v.length-(x::r).length) (c-1)=xo at *
      have hcu1:(x::r).length≤c-(v.length-(x::r).length):=by omega
      have hcu2:c-(v.length-(x::r).length)≤9223372036854775807:=by omega
      generalize c-(v.length-(x::r).length)=cu at *
      have hxb:b<wr.heap.size:=Nat.lt_of_lt_of_le hbw hb.size
      obtain⟨xb',xo',hpe,_,x0,x1,x2,x3,xw⟩:=hu.head
      obtain⟨rfl,rfl⟩:b=xb'∧xo=xo':=by simpa using hpe
      clear hpe
      have i0:(0:Int)<((x::r).length:Int):=by simp
      simp only[List.length_cons]at *
      cases e7:(x.op == 7)
      · have HN:Hid (none=R):=(recLoop_bad hkn (fun h=>by simp[h.1]at e7)).symm.trans HS.out
        clear HS HR
        go_wp2_with fail
        refine(need_false _).mono ?_
        rintro e w3 ⟨rfl,rfl⟩
        go_wp2
        exact⟨rfl,by rw[←HN.out];rfl,hb⟩
      · have HX:=fun w=>mayBe_any x w xw
        cases hx:ndOk x<;>rw[hx]at HX
        · have HN:Hid (none=R):=(recLoop_bad hkn (fun h=>by simp[h.2.1]at hx)).symm.trans HS.out
          clear HS HR
          go_wp2_with fail
          refine(HX _).mono ?_
          rintro e w2 ⟨rfl,hb2⟩
          go_wp2_with fail
          refine(need_false _).mono ?_
          rintro e w3 ⟨rfl,rfl⟩
          go_wp2
          exact⟨rfl,by rw[←HN.out];rfl,hb.trans (hb2.mono hb.size)⟩
        · go_wp2_with fail
          refine(HX _).mono ?_
          rintro e w2 ⟨rfl,hb2⟩
          have hb3:Below w.heap.size w w2:=hb.trans (hb2.mono hb.size)
          have q:∀o,w2.cell? ⟨b,o,none⟩=wr.cell? ⟨b,o,none⟩:=fun o=>hb2.cell (p:=⟨b,o,none⟩) hxb
          have z0:=(q xo).trans x0
          have z2:=(q (xo+2)).trans x2
          have hu2:=hu.up hb2
          have hx2:b<w2.heap.size:=Nat.lt_of_lt_of_le hxb hb2.size
          have hbl:Op.bytesLess last.toList x.s.toList=decide (cmpB last x.s<0):=by rw[bytesLess_cb,ByteArray.toList_eq,ByteArray.toList_eq];rfl
          clear q x0 x1 x2 x3 hu hb2 hb
          go_wp2_with fail
          refine(need_true _).mono ?_
          rintro e w3 ⟨rfl,rfl⟩
          go_wp2_with fail
          cases hlt0:decide (cmpB last x.s<0)
          · have HN:Hid (none=R):=(recLoop_bad hkn (fun h=>by simp[h.2.2]at hlt0)).symm.trans HS.out
            refine(need_false _).mono ?_
            rintro e w4 ⟨rfl,rfl⟩
            go_wp2
            exact⟨rfl,by rw[←HN.out];rfl,hb3⟩
          · have HN:Hid (_=_):=(recLoop_go hkn ⟨by simpa using e7,hx,by simpa using hlt0⟩).symm.trans HS.out
            refine(need_true _).mono ?_
            rintro e w4 ⟨rfl,rfl⟩
            have hz2:∀q:BW w4.heap.size w4,q.at_.cell? ⟨b,xo+2,none⟩=some (.string x.s):=fun q=>(q.bel.cell (p:=⟨b,xo+2,none⟩) hx2).trans z2
            cases hp:pastV f r with
            | some rest=>
              obtain⟨hsh,htl⟩:=pastV_shorter hp
              have hc1:¬cu=1:=by omega
              have hcall:∀q:BW w4.heap.size w4,Calls Tryz.prog 75 #[.slice (some ⟨b,xo+4,none⟩) r.length (cu-1)] q.at_ (fun e w''=>e= .returned (tailV b off c v.length rest.length)∧∃p':BW w4.heap.size w4,w''=p'.at_):=fun q=>Calls.bel q (by
               have h:=ih r b (xo+4) (cu-1) q.at_ (by omega) (hu2.tail.up q.bel) (by omega) (by unfold maxLen;omega)
               rw[hp]at h
               have e1:tailV b (xo+4) (cu-1) r.length rest.length=tailV b off c v.length rest.length:=by
                rw[←HX2.out rest.length (by omega)]
                unfold tailV
                rw[show xo+4+4*min (r.length-rest.length) (cu-1-1)=xo+4*min (r.length+1-rest.length) (cu-1) by omega,show cu-1-(r.length-rest.length)=cu-(r.length+1-rest.length) by omega]
               unfold Past at h
               simp only[]at h
               rw[e1]at h
               exact h)
              go_wp2_with fail
              refine wp_region_bel (by kernel_rfl) (by kernel_rfl) ?_
              repeat (go_big_quiet_step (exact hcall _))
              refine wpQuiet_nil ?_
              rintro _ ⟨q,rfl⟩
              have hb5:=hb3.trans (q.bel.mono hb3.size)
              have HN2:Hid (recLoop (pastV f) (cnt.toNat-(k+1)) x.s rest=R):=by have:=HN.out;rw[hp]at this;exact this
              clear HN hp HS HR hcall hz2
              go_wp2
              go_roundw
              case rel=>exact⟨k+1,rest,x.s,by omega,by go_num,rfl,(htl.cons x).trans HT.out,rfl,HN2,hb5⟩
              case measure=>simp[intOf];omega
            | none=>
              have HN2:Hid (none=R):=by have:=HN.out;rw[hp]at this;exact this
              have j1:(1:Int)≤(r.length:Int)+1:=by omega
              obtain⟨pr,hpr,hnr⟩:∃pr,(if cu=1 then some (⟨b,xo,none⟩:Addr)else some ⟨b,xo+4,none⟩)=some ⟨b,pr,none⟩∧NL w4 (some ⟨b,pr,none⟩) r:=by
               by_cases h:cu=1
               · exact⟨xo,if_pos h,.inl (List.eq_nil_of_length_eq_zero (by omega))⟩
               · exact⟨xo+4,if_neg h,hu2.tail⟩
              have hcall:∀q:BW w4.heap.size w4,Calls Tryz.prog 75 #[.slice (some ⟨b,pr,none⟩) r.length (cu-1)] q.at_ (fun e w''=>e= .panicked thrown∧Below w4.heap.size w4 w''):=fun q=>(by
               have h:=ih r b pr (cu-1) q.at_ (by omega) (hnr.up q.bel) (by omega) (by unfold maxLen;omega)
               rw[hp]at h
               exact h.mono fun e w'' ⟨h1,h2⟩=>⟨h1,q.bel.trans (h2.mono q.bel.size)⟩)
              clear HN hp HS HR
              go_wp2_with fail
              refine wp_mono (Q:=fun e a w'=>e= .panic thrown∧a.defers=[]∧Below w4.heap.size w4 w') ?_ ?_
              rotate_left
              · rintro _ a w5 ⟨rfl,hd,hb5⟩
                go_wp2
                exact⟨hd,by rw[←HN2.out];rfl,hb3.trans (hb5.mono hb3.size)⟩
              refine wp_region_any (by kernel_rfl) ?_
              refine wpAny_take (i:=0) (v:=?_) rfl (by kernel_rfl) (by kernel_rfl) (by kernel_rfl) (fun _ _ _ h=>h) (Or.inl ⟨by rfl,?_⟩) ?_
              rotate_left
              · intro w;go_simp;with_reducible rfl
              refine wpAny_take (i:=1) (v:=?_) rfl (by kernel_rfl) (by kernel_rfl) (by kernel_rfl) (fun _ _ _ h=>h) (Or.inl ⟨by rfl,?_⟩) ?_
              rotate_left
              · intro w;go_simp;with_reducible rfl
              refine wpAny_take (i:=2) (v:=?_) rfl (by kernel_rfl) (by kernel_rfl) (by kernel_rfl) (fun _ _ _ h=>h) (Or.inl ⟨by rfl,?_⟩) ?_
              rotate_left
              · intro w;go_simp;with_reducible rfl
              refine wpAny_take (i:=4) (v:=?_) rfl (by kernel_rfl) (by kernel_rfl) (by kernel_rfl) (fun _ _ _ h=>h) (Or.inl ⟨by rfl,?_⟩) ?_
              rotate_left
              · intro w;go_simp;with_reducible rfl
              refine wpAny_take (i:=5) (v:=.slice (some ⟨b,pr,none⟩) r.length (cu-1)) rfl (by kernel_rfl) (by kernel_rfl) (by kernel_rfl) (fun _ _ _ h=>h) (Or.inl ⟨by rfl,?_⟩) ?_
              · intro w;go_simp
              refine wpAny_ready (rs:=[3,6]) (by kernel_rfl) (by simp) ?_
              have c0:=hcall ⟨w4.drew,(Below.refl _ _).drew⟩
              have z3:w4.drew.cell? ⟨b,xo+2,none⟩=some (.string x.s):=z2
              refine AllReady.cons rfl (fun K hK=>?_) ?_
              · go_simp
                refine hK _ _ ?_
                clear hK K
                refine wpAny_ready (rs:=[6]) (by kernel_rfl) (by simp) ?_
                refine AllReady.cons rfl (fun K hK=>?_) AllReady.nil
                go_simp
                refine c0.mono ?_
                rintro e w5 ⟨rfl,hb5⟩
                exact⟨rfl,hb5⟩
              · refine AllReady.cons rfl (fun K hK=>?_) AllReady.nil
                go_simp
                refine c0.mono ?_
                rintro e w5 ⟨rfl,hb5⟩
                exact⟨rfl,hb5⟩
  · have HN:Hid (some u=R):=by
     have:=HS.out
     rw[show cnt.toNat-k=0 by omega]at this
     cases u<;>exact this
    clear HS HR
    go_wp2
    go_ret
    exact⟨by rw[←HN.out];rfl,hb⟩
theorem tailV_cons {b off c n m pr:Nat}(hpr:(if c=1 then some (⟨b,off,none⟩:Addr)else some ⟨b,off+4,none⟩)=some ⟨b,pr,none⟩)(h1:m≤n)(h2:n+1≤c):tailV b pr (c-1) n m=tailV b off c (n+1) m:=by
 unfold tailV
 by_cases h:c=1
 · rw[if_pos h]at hpr
   obtain rfl:off=pr:=by simpa using hpr
   rw[show off+4*min (n-m) (c-1-1)=off+4*min (n+1-m) (c-1) by omega,show c-1-(n-m)=c-(n+1-m) by omega]
 · rw[if_neg h]at hpr
   obtain rfl:off+4=pr:=by simpa using hpr
   rw[show off+4+4*min (n-m) (c-1-1)=off+4*min (n+1-m) (c-1) by omega,show c-1-(n-m)=c-(n+1-m) by omega]
theorem Past_cons {b off c n pr:Nat}(hpr:(if c=1 then some (⟨b,off,none⟩:Addr)else some ⟨b,off+4,none⟩)=some ⟨b,pr,none⟩)(h2:n+1≤c)(R:Option (List Nd))(hR:∀r,R=some r→r.length≤n):Past b pr (c-1) n R=Past b off c (n+1) R:=by
 cases R with
 | none=>rfl
 | some r=>unfold Past;simp only[];rw[tailV_cons hpr (hR r rfl) h2]
theorem ndOk_count {x:Nd}(h:ndOk x=true)(h5:x.op=5∨x.op=6):0≤x.n:=by
 unfold ndOk at h
 rcases h5 with e | e<;>simp[e]at h<;>exact h.2
set_option maxRecDepth 100000 in
theorem pastValue_step (f:Nat)(ih:PastOk f)(v:List Nd)(b off c:Nat)(w:World)(hf:v.length<f+1)(hv:NL w (some ⟨b,off,none⟩) v)(hc:v.length≤c)(hcm:c≤maxLen):
 Calls Tryz.prog 75 #[.slice (some ⟨b,off,none⟩) v.length c] w fun e w'=>e=Past b off c v.length (pastV (f+1) v)∧Below w.heap.size w w':=by
 have HM:Hid (c≤maxLen):=hcm
 unfold maxLen at hcm
 cases v with
 | nil=>
   go_enter Tryz.func75,Tryz.ntmps75
   go_wp2_with fail
   refine(need_false _).mono ?_
   rintro e w3 ⟨rfl,rfl⟩
   go_wp2
   exact⟨rfl,rfl,Below.refl _ _⟩
 | cons x r=>
   obtain⟨b',off',hpe,hbw,x0,x1,x2,x3,xw⟩:=hv.head
   obtain⟨rfl,rfl⟩:b=b'∧off=off':=by simpa using hpe
   clear hpe
   have i0:(0:Int)<((x::r).length:Int):=by simp
   simp only[List.length_cons]at *
   cases e7:(x.op != 7)
   · have HN:Hid (pastV (f+1) (x::r)=none):=by show _=_;simp only[pastV];rw[if_neg (fun h=>by simp[h.1]at e7)]
     go_enter Tryz.func75,Tryz.ntmps75
     go_wp2_with fail
     refine(need_false _).mono ?_
     rintro e w3 ⟨rfl,rfl⟩
     go_wp2
     exact⟨rfl,by rw[HN.out];rfl,Below.refl _ _⟩
   · have HX:=fun w=>mayBe_any x w xw
     cases hx:ndOk x<;>rw[hx]at HX
     · have HN:Hid (pastV (f+1) (x::r)=none):=by show _=_;simp only[pastV];rw[if_neg (fun h=>by simp[h.2]at hx)]
       go_enter Tryz.func75,Tryz.ntmps75
       go_wp2_with fail
       refine(HX _).mono ?_
       rintro e w2 ⟨rfl,hb2⟩
       go_wp2_with fail
       refine(need_false _).mono ?_
       rintro e w3 ⟨rfl,rfl⟩
       go_wp2
       exact⟨rfl,by rw[HN.out];rfl,hb2⟩
     · have HN:Hid (pastV (f+1) (x::r)=if x.op=5 then setLoop (pastV f) x.n.toNat none r else if x.op=6 then recLoop (pastV f) x.n.toNat ⟨#[]⟩ r else some r):=by
        show _=_;simp only[pastV];rw[if_pos ⟨by simpa using e7,hx⟩]
       have hcnt:=ndOk_count hx
       have hnn:=xw.2.2
       have j1:(1:Int)≤(r.length:Int)+1:=by omega
       obtain⟨pr,hpr,hnr⟩:∃pr,(if c=1 then some (⟨b,off,none⟩:Addr)else some ⟨b,off+4,none⟩)=some ⟨b,pr,none⟩∧NL w (some ⟨b,pr,none⟩) r:=by
        by_cases h:c=1
        · exact⟨off,if_pos h,.inl (List.eq_nil_of_length_eq_zero (by omega))⟩
        · exact⟨off+4,if_neg h,hv.tail⟩
       have HPC:=Past_cons (n:=r.length) hpr (by omega)
       have hprH:Hid _:=hpr
       have hpv:∀v r,pastV f v=some r→IsTail r v:=fun v r e=>(pastV_shorter e).2
       go_enter Tryz.func75,Tryz.ntmps75
       go_wp2_with fail
       refine(HX _).mono ?_
       rintro e w2 ⟨rfl,hb2⟩
       have q:∀o,w2.cell? ⟨b,o,none⟩=w.cell? ⟨b,o,none⟩:=fun o=>hb2.cell (p:=⟨b,o,none⟩) hbw
       have z0:=(q off).trans x0
       have z1:=(q (off+1)).trans x1
       have hnr2:=hnr.up hb2
       have hbw2:=Nat.lt_of_lt_of_le hbw hb2.size
       clear q x0 x1 x2 x3
       go_wp2_with fail
       refine(need_true _).mono ?_
       rintro e w3 ⟨rfl,rfl⟩
       by_cases h5:x.op=5
       · have e5:(x.op == 5)=true:=by simpa using h5
         have HS:Hid (pastV (f+1) (x::r)=setLoop (pastV f) x.n.toNat none r):=by have:=HN.out;rw[if_pos h5]at this;exact this
         have hset:=fun wd (hbd:Below w3.heap.size w3 wd)=>pastSet_any f ih r b pr (c-1) x.n wd (by omega) (hnr2.up hbd) (by omega) (by unfold maxLen;omega) (hcnt (.inl h5)) hnn
         rw[HPC _ (fun r' h=>(setLoop_tail hpv _ _ _ _ h).length),←HS.out]at hset
         clear HN HS HX hcnt
         generalize hRe:pastV (f+1) (x::r)=R at hset
         have HRe:Hid (_=_):=hRe
         clear hRe
         go_wp2_with fail
         refine wp_region_still_tail 6 (by kernel_rfl) (by kernel_rfl) ?_
         change wpStill _ _ w3.drew (fun a'=>wpList _ _ _ _ a' w3.drew) _ _
         have hbd:Below w3.heap.size w3 w3.drew:=(Below.refl _ _).drew
         have hs:=hset _ hbd
         have z1':w3.drew.cell? ⟨b,off+1,none⟩=some (.int .i64 x.n):=z1
         have hb6:=hb2.trans (hbd.mono hb2.size)
         clear hset hb2 hbd z0 z1 hnr2 hbw2
         generalize w3.drew=wd at *
         simp only[List.take_succ_cons,List.take_zero,List.drop_succ_cons,List.drop_zero]
         repeat still_step
         refine wpStill_nil ?_
         go_wp2_with fail
         refine hs.mono ?_
         rintro e w4 ⟨rfl,hb4⟩
         have hb5:Below w.heap.size w w4:=hb6.trans (hb4.mono hb6.size)
         cases R with
         | none=>
           unfold Past
           go_wp2
           exact⟨rfl,by rw[HRe.out];rfl,hb5⟩
         | some r'=>
           unfold Past
           simp only[]
           go_wp2
           go_ret
           exact⟨by rw[HRe.out];rfl,hb5⟩
       · have e5:(x.op == 5)=false:=by simpa using h5
         by_cases h6:x.op=6
         · have e6:(x.op == 6)=true:=by simpa using h6
           have HS:Hid (pastV (f+1) (x::r)=recLoop (pastV f) x.n.toNat ⟨#[]⟩ r):=by have:=HN.out;rw[if_neg h5,if_pos h6]at this;exact this
           have hset:=fun wd (hbd:Below w3.heap.size w3 wd)=>pastRec_any f ih r b pr (c-1) x.n wd (by omega) (hnr2.up hbd) (Nat.lt_of_lt_of_le hbw2 hbd.size) (by omega) (by unfold maxLen;omega) (hcnt (.inr h6)) hnn
           rw[HPC _ (fun r' h=>(recLoop_tail hpv _ _ _ _ h).length),←HS.out]at hset
           clear HN HS HX hcnt
           generalize hRe:pastV (f+1) (x::r)=R at hset
           have HRe:Hid (_=_):=hRe
           clear hRe
           go_wp2_with fail
           refine wp_region_still_tail 6 (by kernel_rfl) (by kernel_rfl) ?_
           change wpStill _ _ w3.drew (fun a'=>wpList _ _ _ _ a' w3.drew) _ _
           have hbd:Below w3.heap.size w3 w3.drew:=(Below.refl _ _).drew
           have hs:=hset _ hbd
           have z1':w3.drew.cell? ⟨b,off+1,none⟩=some (.int .i64 x.n):=z1
           have hb6:=hb2.trans (hbd.mono hb2.size)
           clear hset hb2 hbd z0 z1 hnr2 hbw2
           generalize w3.drew=wd at *
           simp only[List.take_succ_cons,List.take_zero,List.drop_succ_cons,List.drop_zero]
           repeat still_step
           refine wpStill_nil ?_
           go_wp2_with fail
           refine hs.mono ?_
           rintro e w4 ⟨rfl,hb4⟩
           have hb5:Below w.heap.size w w4:=hb6.trans (hb4.mono hb6.size)
           cases R with
           | none=>
             unfold Past
             go_wp2
             exact⟨rfl,by rw[HRe.out];rfl,hb5⟩
           | some r'=>
             unfold Past
             simp only[]
             go_wp2
             go_ret
             exact⟨by rw[HRe.out];rfl,hb5⟩
         · have e6:(x.op == 6)=false:=by simpa using h6
           have HS:Hid (pastV (f+1) (x::r)=some r):=by have:=HN.out;rw[if_neg h5,if_neg h6]at this;exact this
           have HT:Hid (Value.slice (some ⟨b,pr,none⟩) r.length (c-1)=tailV b off c (r.length+1) r.length):=by
            show _=_;rw[←tailV_cons (n:=r.length) (m:=r.length) hpr (Nat.le_refl _) (by omega)];exact tailV_all.symm
           clear HN HX hcnt
           go_wp2
           go_ret
           exact⟨by rw[HS.out,HT.out];rfl,hb2⟩
theorem pastValue_any:∀f,PastOk f
 | 0=>fun v b off c w h=>absurd h (by omega)
 | f+1=>fun v b off c w h1 h2 h3 h4=>pastValue_step f (pastValue_any f) v b off c w h1 h2 h3 h4
theorem catch_idle (p:Addr)(w:World):
 CallsD Tryz.prog 73 #[.pointer (some p)] .returning w fun e u' w'=>e= .returned (.tuple #[])∧u'= .returning∧w'=w:=by
 refine callsD_of_wpS Tryz.func73 rfl fun c₀ cs hu=>?_
 apply wpS_seq
 apply wpS_region
 simp[wpOpsS,go_sem,recoverD,hu,Tryz.ntmps73,Exit.thenS]
 refine wpS_of_wp ?_
 go_wp2
 cases c₀
 simp_all [bodyPostS,results,Tryz.results73]
theorem catch_thrown (p:Addr)(w:World)(u:Value)(hc:w.cell? p=some u)(hz:w.frozen? p=false):
 CallsD Tryz.prog 73 #[.pointer (some p)] (.panicking thrown) w fun e u' w'=>e= .returned (.tuple #[])∧u'= .panicking [{ v:=.iface 70 (.int .i64 1),recovered:=true }]∧w'=w.setCell p (.iface 70 (.int .i64 1)):=by
 have hta:∀w:World,Sem.run Tryz.prog (Instr.typeAssert (.iface 70 (.int .i64 1)) 20 70 true) w= .ok (.tuple #[.int .i64 1,.bool true]) w:=fun _=>by kernel_rfl
 refine callsD_of_wpS Tryz.func73 rfl fun c₀ cs hu=>?_
 unfold thrown at hu
 apply wpS_seq
 apply wpS_region
 simp[wpOpsS,go_sem,recoverD,hu,Tryz.ntmps73,Exit.thenS]
 refine wpS_of_wp ?_
 go_wp2
 cases c₀
 simp_all [bodyPostS,results,Tryz.results73]
def NS (w:World)(v:List Nd)(x:Value):Prop:=∃p c,x= .slice p v.length c∧(v=[]∨p.isSome=true)∧NL w p v∧v.length≤c∧c≤maxLen
theorem pastValue_slice (v:List Nd)(p:Option Addr)(c:Nat)(w:World)(hv:NL w p v)(hc:v.length≤c)(hcm:c≤maxLen):
 Calls Tryz.prog 75 #[.slice p v.length c] w fun e w'=>(match pastV (v.length+1) v with | none=>e= .panicked thrown | some r=>∃q c',e= .returned (.slice q r.length c'))∧Below w.heap.size w w':=by
 cases v with
 | nil=>
   go_enter Tryz.func75,Tryz.ntmps75
   go_wp2_with fail
   refine(need_false _).mono ?_
   rintro e w3 ⟨rfl,rfl⟩
   go_wp2
   exact⟨rfl,rfl,Below.refl _ _⟩
 | cons x r=>
   obtain⟨b,off,rfl,hbw,_⟩:=hv.head
   refine(pastValue_any _ (x::r) b off c w (Nat.lt_succ_self _) hv hc hcm).mono ?_
   rintro e w' ⟨rfl,hb⟩
   refine⟨?_,hb⟩
   cases pastV ((x::r).length+1) (x::r)with
   | none=>rfl
   | some r'=>exact⟨_,_,rfl⟩
theorem walk_any (v:List Nd)(p:Option Addr)(c:Nat)(w:World)(hv:NL w p v)(hc:v.length≤c)(hcm:c≤maxLen):
 Calls Tryz.prog 51 #[.slice p v.length c] w fun e w'=>e= .returned (eV (if isVal v then 0 else 1))∧Below w.heap.size w w':=by
 generalize hn:(if isVal v then(0:Int)else 1)=n
 have HNN:Hid (_=_):=hn
 clear hn
 have hmf:∀(fn:Fn) (first cap:Array Value) (w:World),(Instr.makeFunc fn first cap).run Tryz.prog w= .ok (.func fn first cap) w:=fun _ _ _ _=>rfl
 have hp:=pastValue_slice v p c (w.alloc (.cells #[.nilIface] 35)) (hv.up ((Below.refl _ _).alloc (Nat.le_refl _) _)) hc hcm
 have hb0:Below w.heap.size w (w.alloc (.cells #[.nilIface] 35)):=(Below.refl _ _).alloc (Nat.le_refl _) _
 have hc0:(w.alloc (.cells #[.nilIface] 35)).cell? ⟨w.heap.size,0,none⟩=some .nilIface:=by simp[go_sem]
 have hz0:(w.alloc (.cells #[.nilIface] 35)).frozen? ⟨w.heap.size,0,none⟩=false:=by simp[go_sem]
 have hs0:w.heap.size<(w.alloc (.cells #[.nilIface] 35)).heap.size:=by simp
 cases hpv:pastV (v.length+1) v with
 | none=>
   rw[hpv]at hp
   have HV:Hid (isVal v=false):=by show _=_;unfold isVal;rw[hpv]
   clear hpv
   go_enter_defers Tryz.func51,Tryz.ntmps51
   go_wp2_with fail
   refine hp.mono ?_
   rintro e w1 ⟨rfl,hb⟩
   have hc1:=(hb.cell (p:=⟨w.heap.size,0,none⟩) hs0).trans hc0
   have hz1:=(hb.frozen (p:=⟨w.heap.size,0,none⟩) hs0).trans hz0
   go_wp2
   refine leaves_cons (f:=73) (args:= #[.pointer (some ⟨w.heap.size,0,none⟩)]) (by simp) (by simp[go_sem]) ?_
   refine(catch_thrown ⟨w.heap.size,0,none⟩ _ .nilIface hc1 hz1).mono ?_
   rintro e u' w'' ⟨rfl,rfl,rfl⟩
   have hb2:Below w.heap.size w (w1.setCell ⟨w.heap.size,0,none⟩ (.iface 70 (.int .i64 1))):=(hb0.trans (hb.mono hb0.size)).setCell (Nat.le_refl _) _
   obtain rfl:n=1:=by rw[←HNN.out,HV.out];rfl
   simp[Leaves,settle,results,Tryz.results51,go_sem,hc1]
   exact⟨rfl,hb2⟩
 | some r=>
   rw[hpv]at hp
   have HV:Hid (isVal v=r.isEmpty):=by show _=_;unfold isVal;rw[hpv]
   clear hpv
   cases r with
   | nil=>
     go_enter_defers Tryz.func51,Tryz.ntmps51
     go_wp2_with fail
     refine hp.mono ?_
     rintro e w1 ⟨⟨q,c',rfl⟩,hb⟩
     have hc1:=(hb.cell (p:=⟨w.heap.size,0,none⟩) hs0).trans hc0
     have hz1:=(hb.frozen (p:=⟨w.heap.size,0,none⟩) hs0).trans hz0
     go_wp2_with fail
     refine(need_true _).mono ?_
     rintro e w2 ⟨rfl,rfl⟩
     go_wp2
     refine leaves_cons (f:=73) (args:= #[.pointer (some ⟨w.heap.size,0,none⟩)]) (by simp) (by simp[go_sem]) ?_
     refine(catch_idle ⟨w.heap.size,0,none⟩ _).mono ?_
     rintro e u' w'' ⟨rfl,rfl,rfl⟩
     have hb2:Below w.heap.size w (w2.setCell ⟨w.heap.size,0,none⟩ .nilIface):=(hb0.trans (hb.mono hb0.size)).setCell (Nat.le_refl _) _
     obtain rfl:n=0:=by rw[←HNN.out,HV.out];rfl
     simp[Leaves,settle,results,Tryz.results51,go_sem,hc1]
     exact⟨rfl,hb2⟩
   | cons x r=>
     go_enter_defers Tryz.func51,Tryz.ntmps51
     go_wp2_with fail
     refine hp.mono ?_
     rintro e w1 ⟨⟨q,c',rfl⟩,hb⟩
     have hc1:=(hb.cell (p:=⟨w.heap.size,0,none⟩) hs0).trans hc0
     have hz1:=(hb.frozen (p:=⟨w.heap.size,0,none⟩) hs0).trans hz0
     have ne:((r.length:Int)+1 == 0)=false:=by simp;omega
     go_wp2_with fail
     refine(need_false _).mono ?_
     rintro e w2 ⟨rfl,rfl⟩
     go_wp2
     refine leaves_cons (f:=73) (args:= #[.pointer (some ⟨w.heap.size,0,none⟩)]) (by simp) (by simp[go_sem]) ?_
     refine(catch_thrown ⟨w.heap.size,0,none⟩ _ .nilIface hc1 hz1).mono ?_
     rintro e u' w'' ⟨rfl,rfl,rfl⟩
     have hb2:Below w.heap.size w (w2.setCell ⟨w.heap.size,0,none⟩ (.iface 70 (.int .i64 1))):=(hb0.trans (hb.mono hb0.size)).setCell (Nat.le_refl _) _
     obtain rfl:n=1:=by rw[←HNN.out,HV.out];rfl
     simp[Leaves,settle,results,Tryz.results51,go_sem,hc1]
     exact⟨rfl,hb2⟩
theorem vcheck_any (v:List Nd)(p:Option Addr)(c:Nat)(w:World)(hv:NL w p v)(hc:v.length≤c)(hcm:c≤maxLen):
 Calls Tryz.prog 32 #[.slice p v.length c] w fun e w'=>e= .returned (eV (vfault v))∧Below w.heap.size w w':=by
 by_cases h:200<v.length
 · have HF:Hid (vfault v=4):=by show _=_;unfold vfault;rw[if_pos h]
   have h':(200:Int)<(v.length:Int):=by omega
   go_enter Tryz.func32,Tryz.ntmps32
   go_wp2
   go_ret
   exact⟨by rw[HF.out];rfl,Below.refl _ _⟩
 · have HF:Hid (vfault v=if isVal v then 0 else 1):=by show _=_;unfold vfault;rw[if_neg h]
   have h':¬(200:Int)<(v.length:Int):=by omega
   go_enter Tryz.func32,Tryz.ntmps32
   go_wp2_with fail
   refine(walk_any v p c _ hv hc hcm).mono ?_
   rintro e w1 ⟨rfl,hb⟩
   rw[←HF.out]
   go_wp2
   go_ret
   exact⟨rfl,hb⟩
def exMay (x:Nd):Bool:= !(x.op == 7) && exOk x
def exCnt (x:Nd):Int:=if x.op=5∨x.op=6 then x.n else if x.op=7∨prt x<0 then 0 else prt x
theorem exMay_iff (x:Nd):exMay x=true↔x.op≠7∧exOk x=true:=by
 unfold exMay;rw[Bool.and_eq_true];simp
theorem exCnt_may {x:Nd}(h:exMay x=true):exCnt x=prt x:=by
 obtain⟨h7,hx⟩:=(exMay_iff x).1 h
 unfold exCnt
 by_cases h5:x.op=5∨x.op=6
 · rw[if_pos h5];unfold prt;rw[if_pos h5]
 · rw[if_neg h5]
   by_cases hp:prt x<0
   · exfalso
     unfold exOk at hx
     by_cases h1:1≤x.op∧x.op≤7
     · have:prt x=0:=by unfold prt;rw[if_neg h5,if_pos (by omega)]
       omega
     · rw[if_neg h1,if_pos hp]at hx;cases hx
   · rw[if_neg (by omega)]
theorem vfault_one {x:Nd}(h:1≤x.op∧x.op≤4):vfault [x]=if ndOk x then 0 else 1:=by
 have e:pastV 2 [x]=if ndOk x then some []else none:=by
  have h7:x.op≠7:=by omega
  have h5:¬x.op=5:=by omega
  have h6:¬x.op=6:=by omega
  simp only[pastV]
  cases hx:ndOk x
  · simp
  · simp[h7,h5,h6]
 unfold vfault isVal
 rw[if_neg (by simp),show[x].length+1=2 from rfl,e]
 cases ndOk x<;>rfl
theorem NL.single (W:World)(g:Nat)(x:Nd)(hx:x.wf)(hg:W.heap.size=g):NL (W.alloc (.cells #[.int .i64 x.op,.int .i64 x.n,.string x.s,.string x.t] 47)) (some ⟨g,0,none⟩) [x]:=by
 subst hg
 refine .inr ⟨W.heap.size,0,rfl,by simp,fun i y hy=>?_⟩
 rcases i with _ | i
 · simp at hy
   subst hy
   simp[go_sem,hx]
 · simp at hy
theorem vcheck_good (x:Nd)(h:1≤x.op∧x.op≤4)(hok:ndOk x=true)(g:Nat)(w:World)(hN:NL w (some ⟨g,0,none⟩) [x]):
 Calls Tryz.prog 32 #[.slice (some ⟨g,0,none⟩) 1 1] w fun e w'=>e= .returned .nilIface∧Below w.heap.size w w':=by
 have:=vcheck_any [x] (some ⟨g,0,none⟩) 1 w hN (by simp) (by unfold maxLen;omega)
 rw[vfault_one h,hok,if_pos rfl]at this
 exact this
theorem vcheck_none (x:Nd)(h:1≤x.op∧x.op≤4)(hok:ndOk x=false)(g:Nat)(w:World)(hN:NL w (some ⟨g,0,none⟩) [x]):
 Calls Tryz.prog 32 #[.slice (some ⟨g,0,none⟩) 1 1] w fun e w'=>e= .returned (.iface 70 (.int .i64 1))∧Below w.heap.size w w':=by
 have:=vcheck_any [x] (some ⟨g,0,none⟩) 1 w hN (by simp) (by unfold maxLen;omega)
 rw[vfault_one h,hok,if_neg (by simp)]at this
 exact this
theorem bel_two {w w1:World}{o1 o2:Obj}(hb:Below ((w.alloc o1).alloc o2).drew.heap.size ((w.alloc o1).alloc o2).drew w1):Below w.heap.size w w1:=
 ((((Below.refl _ _).alloc (Nat.le_refl _) o1).alloc (by simp) o2).drew).trans (hb.mono (by show w.heap.size≤((w.alloc o1).alloc o2).heap.size;simp;omega))
theorem ret_two {a b:Int}{c d:Bool}(h:a=b)(k:c=d):Ending.returned (.tuple #[.int .i64 a,.bool c])= .returned (.tuple #[.int .i64 b,.bool d]):=by rw[h,k]
set_option maxRecDepth 100000 in
theorem partsOf_value (x:Nd)(w:World)(hx:x.wf)(h:1≤x.op∧x.op≤4):
 Calls Tryz.prog 52 #[x.val] w fun e w'=>e= .returned (.tuple #[.int .i64 (exCnt x),.bool (exMay x)])∧Below w.heap.size w w':=by
 have HC:Hid (exCnt x=0):=by
  show _=_
  have hp:prt x=0:=by unfold prt;rw[if_neg (by omega),if_pos (by omega)]
  unfold exCnt
  rw[if_neg (by omega),hp]
  split<;>rfl
 have HM:Hid (exMay x=ndOk x):=by
  show _=_
  unfold exMay exOk
  rw[if_pos (by omega)]
  have:(x.op == 7)=false:=by simp;omega
  rw[this];rfl
 have HG:=vcheck_good x h
 have HB:=vcheck_none x h
 have HS:=fun W g=>NL.single W g x hx
 obtain⟨op,n,s,t⟩:=x
 unfold Nd.val
 simp only at HS
 have hop:op=1∨op=2∨op=3∨op=4:=by simp only at h;omega
 clear h
 cases hok:ndOk ⟨op,n,s,t⟩<;>rw[hok]at HM
 · have HV:=HB hok
   clear HG HB
   rcases hop with rfl | rfl | rfl | rfl
   all_goals
    go_enter Tryz.func52,Tryz.ntmps52
    go_wp2_with fail
    go_region_with (go_at_call 32;refine(HV (w.heap.size+1) _ ((HS _ _ (by simp)).up (Below.refl _ _).drew)).mono ?_;rintro e w1 ⟨rfl,hb⟩)
    all_goals
     go_wp2
     go_ret2
     exact⟨ret_two HC.out.symm HM.out.symm,bel_two hb⟩
 · have HV:=HG hok
   clear HG HB
   rcases hop with rfl | rfl | rfl | rfl
   all_goals
    go_enter Tryz.func52,Tryz.ntmps52
    go_wp2_with fail
    go_region_with (go_at_call 32;refine(HV (w.heap.size+1) _ ((HS _ _ (by simp)).up (Below.refl _ _).drew)).mono ?_;rintro e w1 ⟨rfl,hb⟩)
    all_goals
     go_wp2
     go_ret2
     exact⟨ret_two HC.out.symm HM.out.symm,bel_two hb⟩
theorem exMay_of {x:Nd}(h7:¬(1≤x.op∧x.op≤7))(hp:0≤prt x):exMay x=(justS x && (if x.op=8 then varOk x.s.data.toList else if x.op=21∨x.op=22∨x.op=24 then nfault x.s.data.toList == 0 else if x.op=23 then textOk x.s.data.toList else x.s.data.toList.isEmpty)):=by
 unfold exMay exOk justS
 rw[if_neg h7,if_neg (by omega)]
 have:(x.op == 7)=false:=by simp;omega
 rw[this,Bool.not_false,Bool.true_and]
theorem exCnt_of {x:Nd}(h7:¬(1≤x.op∧x.op≤7))(hp:0≤prt x):exCnt x=prt x:=by
 unfold exCnt
 rw[if_neg (by omega),if_neg (by omega)]
set_option maxRecDepth 100000 in
theorem partsOf_bare (x:Nd)(w:World)(hx:x.wf)(h:x.op=9∨x.op=10∨11≤x.op∧x.op≤20∨25≤x.op∧x.op≤27):
 Calls Tryz.prog 52 #[x.val] w fun e w'=>e= .returned (.tuple #[.int .i64 (exCnt x),.bool (exMay x)])∧Below w.heap.size w w':=by
 have hpp:prt x=if x.op=9∨x.op=10 then 1 else if x.op=13 then 3 else 2:=by
  unfold prt
  rw[if_neg (by omega),if_neg (by omega)]
  by_cases h9:x.op=9∨x.op=10
  · rw[if_pos (by omega),if_pos h9]
  · rw[if_neg (by omega),if_neg h9]
    split
    · rfl
    · rw[if_pos (by omega)]
 have hp:0≤prt x:=by rw[hpp];repeat' split<;>omega
 have HC:Hid (exCnt x=_):=(exCnt_of (by omega) hp).trans hpp
 have HM:Hid (exMay x=bare x):=by
  show _=_
  rw[exMay_of (by omega) hp,if_neg (by omega),if_neg (by omega),if_neg (by omega)]
  unfold justS bare
  cases (x.n == 0)<;>cases x.s.data.toList.isEmpty<;>cases x.t.data.toList.isEmpty<;>rfl
 have HN:=fun w=>hasNothing_any x w
 rw[←HM.out]at HN
 clear hpp hp HM
 generalize exMay x=m at *
 have HL:Hid (∀o w',Below (w.alloc o).heap.size (w.alloc o) w'→Below w.heap.size w w'):=fun o w' h=>((Below.refl _ _).alloc (Nat.le_refl _) _).trans (h.mono (by simp))
 obtain⟨op,n,s,t⟩:=x
 unfold Nd.val at *
 have hop:op=9∨op=10∨op=11∨op=12∨op=13∨op=14∨op=15∨op=16∨op=17∨op=18∨op=19∨op=20∨op=25∨op=26∨op=27:=by simp only at h;omega
 clear h
 rcases hop with rfl | rfl | rfl | rfl | rfl | rfl | rfl | rfl | rfl | rfl | rfl | rfl | rfl | rfl | rfl
 all_goals
  go_enter Tryz.func52,Tryz.ntmps52
  go_wp2_with fail
  refine(HN _).mono ?_
  rintro e w1 ⟨rfl,hb⟩
  go_wp2
  go_ret2
  exact⟨ret_two (by rw[HC.out];rfl) rfl,HL.out _ _ hb⟩
theorem boxs {w w':World}{x:Nd}{T:TypeId}(hb:Below (w.alloc (.cells #[.int .i64 x.op,.int .i64 x.n,.string x.s,.string x.t] T)).heap.size (w.alloc (.cells #[.int .i64 x.op,.int .i64 x.n,.string x.s,.string x.t] T)) w'):w'.cell? ⟨w.heap.size,2,none⟩=some (.string x.s):=
 (hb.cell (p:=⟨w.heap.size,2,none⟩) (by simp)).trans (by simp[go_sem])
set_option maxRecDepth 100000 in
theorem partsOf_named (x:Nd)(w:World)(hx:x.wf)(h:x.op=8∨21≤x.op∧x.op≤24):
 Calls Tryz.prog 52 #[x.val] w fun e w'=>e= .returned (.tuple #[.int .i64 (exCnt x),.bool (exMay x)])∧Below w.heap.size w w':=by
 have hpp:prt x=if x.op=8 then 0 else 1:=by
  unfold prt
  rw[if_neg (by omega)]
  by_cases h8:x.op=8
  · rw[if_pos (by omega),if_pos h8]
  · rw[if_neg (by omega),if_pos (by omega),if_neg h8]
 have hp:0≤prt x:=by rw[hpp];split<;>omega
 have HC:Hid (exCnt x=_):=(exCnt_of (by omega) hp).trans hpp
 have HM:Hid (exMay x=_):=exMay_of (by omega) hp
 have HJ:=fun w=>hasJustS_any x w
 have HV:=fun w=>isVar_any x.s w hx.1
 have HN:=fun w=>tName_any x.s w hx.1
 have HT:=fun w=>tText_any x.s w hx.1
 have HB:Hid (∀w',_→_):=fun w'=>boxs (w:=w) (w':=w') (x:=x) (T:=47)
 clear hpp hp
 generalize justS x=j at *
 generalize varOk x.s.data.toList=v1 at *
 generalize (nfault x.s.data.toList == 0)=v2 at *
 generalize textOk x.s.data.toList=v3 at *
 generalize exMay x=m at *
 have HL:Hid (∀o w',Below (w.alloc o).heap.size (w.alloc o) w'→Below w.heap.size w w'):=fun o w' h=>((Below.refl _ _).alloc (Nat.le_refl _) _).trans (h.mono (by simp))
 obtain⟨op,n,s,t⟩:=x
 unfold Nd.val at *
 simp only at HB HV HN HT HM
 have hop:op=8∨op=21∨op=22∨op=23∨op=24:=by simp only at h;omega
 clear h
 cases j
 · rcases hop with rfl | rfl | rfl | rfl | rfl
   all_goals
    have HM2:Hid (m=false):=HM.out
    clear HM
    go_enter Tryz.func52,Tryz.ntmps52
    go_wp2_with fail
    refine(HJ _).mono ?_
    rintro e w1 ⟨rfl,hb⟩
    go_wp2
    go_ret2
    exact⟨ret_two (by rw[HC.out];rfl) HM2.out.symm,HL.out _ _ hb⟩
 · rcases hop with rfl | rfl | rfl | rfl | rfl
   · have HM2:Hid (m=v1):=HM.out
     clear HM
     go_enter Tryz.func52,Tryz.ntmps52
     go_wp2_with fail
     refine(HJ _).mono ?_
     rintro e w1 ⟨rfl,hb⟩
     have hc:=HB.out _ hb
     go_wp2_with fail
     refine(HV _).mono ?_
     rintro e w2 ⟨rfl,rfl⟩
     go_wp2
     go_ret2
     exact⟨ret_two (by rw[HC.out];rfl) HM2.out.symm,HL.out _ _ hb⟩
   · have HM2:Hid (m=v2):=HM.out
     clear HM
     go_enter Tryz.func52,Tryz.ntmps52
     go_wp2_with fail
     refine(HJ _).mono ?_
     rintro e w1 ⟨rfl,hb⟩
     have hc:=HB.out _ hb
     go_wp2_with fail
     refine(HN _).mono ?_
     rintro e w2 ⟨rfl,rfl⟩
     go_wp2
     go_ret2
     exact⟨ret_two (by rw[HC.out];rfl) HM2.out.symm,HL.out _ _ hb⟩
   · have HM2:Hid (m=v2):=HM.out
     clear HM
     go_enter Tryz.func52,Tryz.ntmps52
     go_wp2_with fail
     refine(HJ _).mono ?_
     rintro e w1 ⟨rfl,hb⟩
     have hc:=HB.out _ hb
     go_wp2_with fail
     refine(HN _).mono ?_
     rintro e w2 ⟨rfl,rfl⟩
     go_wp2
     go_ret2
     exact⟨ret_two (by rw[HC.out];rfl) HM2.out.symm,HL.out _ _ hb⟩
   · have HM2:Hid (m=v3):=HM.out
     clear HM
     go_enter Tryz.func52,Tryz.ntmps52
     go_wp2_with fail
     refine(HJ _).mono ?_
     rintro e w1 ⟨rfl,hb⟩
     have hc:=HB.out _ hb
     go_wp2_with fail
     refine(HT _).mono ?_
     rintro e w2 ⟨rfl,hb2⟩
     have hb3:=hb.trans (hb2.mono hb.size)
     go_wp2
     go_ret2
     exact⟨ret_two (by rw[HC.out];rfl) HM2.out.symm,HL.out _ _ hb3⟩
   · have HM2:Hid (m=v2):=HM.out
     clear HM
     go_enter Tryz.func52,Tryz.ntmps52
     go_wp2_with fail
     refine(HJ _).mono ?_
     rintro e w1 ⟨rfl,hb⟩
     have hc:=HB.out _ hb
     go_wp2_with fail
     refine(HN _).mono ?_
     rintro e w2 ⟨rfl,rfl⟩
     go_wp2
     go_ret2
     exact⟨ret_two (by rw[HC.out];rfl) HM2.out.symm,HL.out _ _ hb⟩
set_option maxRecDepth 100000 in
theorem partsOf_many (x:Nd)(w:World)(hx:x.wf)(h:x.op=5∨x.op=6):
 Calls Tryz.prog 52 #[x.val] w fun e w'=>e= .returned (.tuple #[.int .i64 (exCnt x),.bool (exMay x)])∧Below w.heap.size w w':=by
 have HC:Hid (exCnt x=x.n):=if_pos h
 have HM:Hid (exMay x=(x.s.data.toList.isEmpty && x.t.data.toList.isEmpty && decide (0≤x.n))):=by
  show _=_
  unfold exMay exOk ndOk
  rw[if_pos (by omega),if_neg (by omega),if_neg (by omega),if_neg (by omega),if_neg (by omega),if_pos h]
  have:(x.op == 7)=false:=by simp;omega
  rw[this];rfl
 obtain⟨op,n,s,t⟩:=x
 simp only at HM
 unfold Nd.val
 have es:((s.toList == [])=s.data.toList.isEmpty):=by rw[ByteArray.toList_eq];cases s.data.toList<;>rfl
 have et:((t.toList == [])=t.data.toList.isEmpty):=by rw[ByteArray.toList_eq];cases t.data.toList<;>rfl
 have hop:op=5∨op=6:=h
 clear h
 have HL:Hid (∀(o:Obj) (m:Nat),Below w.heap.size w ((w.alloc o).drewN m)):=fun o m=>by
  have h:=(Below.refl w.heap.size w).alloc (Nat.le_refl _) o
  exact⟨h.os,h.tape,h.output,h.size,h.block⟩
 cases hse:s.data.toList.isEmpty<;>cases hte:t.data.toList.isEmpty<;>rw[hse,hte]at HM<;>rw[hse]at es<;>rw[hte]at et
 all_goals
  by_cases hn:0≤n
  · have hn2:decide (0≤n)=true:=by simpa using hn
    rw[hn2]at HM
    rcases hop with rfl | rfl
    all_goals
     go_enter Tryz.func52,Tryz.ntmps52
     go_wp2
     go_quiet (fail)
     go_wp2
     go_ret2
     exact⟨ret_two HC.out.symm HM.out.symm,HL.out _ _⟩
  · have hn2:decide (0≤n)=false:=by simpa using hn
    rw[hn2]at HM
    rcases hop with rfl | rfl
    all_goals
     go_enter Tryz.func52,Tryz.ntmps52
     go_wp2
     go_quiet (fail)
     go_wp2
     go_ret2
     exact⟨ret_two HC.out.symm HM.out.symm,HL.out _ _⟩
set_option maxRecDepth 100000 in
theorem partsOf_other (x:Nd)(w:World)(hx:x.wf)(h:x.op=7∨x.op<1∨27<x.op):
 Calls Tryz.prog 52 #[x.val] w fun e w'=>e= .returned (.tuple #[.int .i64 (exCnt x),.bool (exMay x)])∧Below w.heap.size w w':=by
 have HC:Hid (exCnt x=0):=by
  show _=_
  unfold exCnt
  rw[if_neg (by omega)]
  by_cases h7:x.op=7
  · rw[if_pos (.inl h7)]
  · have:prt x= -1:=by
     unfold prt
     rw[if_neg (by omega),if_neg (by omega),if_neg (by omega),if_neg (by omega),if_neg (by omega)]
    rw[this,if_pos (.inr (by omega))]
 have HM:Hid (exMay x=false):=by
  show _=_
  unfold exMay exOk
  by_cases h7:x.op=7
  · simp[h7]
  · have:prt x= -1:=by
     unfold prt
     rw[if_neg (by omega),if_neg (by omega),if_neg (by omega),if_neg (by omega),if_neg (by omega)]
    rw[if_neg (by omega),this,if_pos (by omega)];simp
 obtain⟨op,n,s,t⟩:=x
 unfold Nd.val
 have HL:Hid (∀o,Below w.heap.size w (w.alloc o)):=fun o=>(Below.refl _ _).alloc (Nat.le_refl _) _
 simp only at h
 have e:∀k:Int,1≤k→k≤27→k≠7→(op == k)=false:=fun k h1 h2 h3=>by simp;omega
 have e1:=e 1 (by omega) (by omega) (by omega)
 have e2:=e 2 (by omega) (by omega) (by omega)
 have e3:=e 3 (by omega) (by omega) (by omega)
 have e4:=e 4 (by omega) (by omega) (by omega)
 have e5:=e 5 (by omega) (by omega) (by omega)
 have e6:=e 6 (by omega) (by omega) (by omega)
 have e8:=e 8 (by omega) (by omega) (by omega)
 have e9:=e 9 (by omega) (by omega) (by omega)
 have e10:=e 10 (by omega) (by omega) (by omega)
 have e11:=e 11 (by omega) (by omega) (by omega)
 have e12:=e 12 (by omega) (by omega) (by omega)
 have e13:=e 13 (by omega) (by omega) (by omega)
 have e14:=e 14 (by omega) (by omega) (by omega)
 have e15:=e 15 (by omega) (by omega) (by omega)
 have e16:=e 16 (by omega) (by omega) (by omega)
 have e17:=e 17 (by omega) (by omega) (by omega)
 have e18:=e 18 (by omega) (by omega) (by omega)
 have e19:=e 19 (by omega) (by omega) (by omega)
 have e20:=e 20 (by omega) (by omega) (by omega)
 have e21:=e 21 (by omega) (by omega) (by omega)
 have e22:=e 22 (by omega) (by omega) (by omega)
 have e23:=e 23 (by omega) (by omega) (by omega)
 have e24:=e 24 (by omega) (by omega) (by omega)
 have e25:=e 25 (by omega) (by omega) (by omega)
 have e26:=e 26 (by omega) (by omega) (by omega)
 have e27:=e 27 (by omega) (by omega) (by omega)
 clear e h
 go_enter Tryz.func52,Tryz.ntmps52
 go_wp2
 go_ret2
 exact⟨ret_two HC.out.symm HM.out.symm,HL.out _⟩
theorem partsOf_any (x:Nd)(w:World)(hx:x.wf):
 Calls Tryz.prog 52 #[x.val] w fun e w'=>e= .returned (.tuple #[.int .i64 (exCnt x),.bool (exMay x)])∧Below w.heap.size w w':=by
 by_cases h1:1≤x.op∧x.op≤4
 · exact partsOf_value x w hx h1
 by_cases h2:x.op=5∨x.op=6
 · exact partsOf_many x w hx h2
 by_cases h3:x.op=7∨x.op<1∨27<x.op
 · exact partsOf_other x w hx h3
 by_cases h4:x.op=8∨21≤x.op∧x.op≤24
 · exact partsOf_named x w hx h4
 exact partsOf_bare x w hx (by omega)
def XE (n:Nat):Option (List Nd)→Value
 | none=>.tuple #[.int .i64 0,.bool false]
 | some r=>.tuple #[.int .i64 ((n-r.length:Nat):Int),.bool true]
def XOk (f:Nat):Prop:=∀(v:List Nd) (p:Option Addr) (c at_:Nat) (w:World),at_≤v.length→v.length-at_<f→NL w p v→v.length≤maxLen→
 Calls Tryz.prog 34 #[.slice p v.length c,.int .i64 at_] w fun e w'=>e= .returned (XE v.length (pastE f (v.drop at_)))∧Below w.heap.size w w'
theorem partsE_none {pv:List Nd→Option (List Nd)}{n k:Nat}(h:k<n){v:List Nd}(e:pv v=none):partsE pv (n-k) v=none:=by
 rw[show n-k=(n-(k+1))+1 by omega];simp only[partsE,e]
theorem partsE_some {pv:List Nd→Option (List Nd)}{n k:Nat}(h:k<n){v rest:List Nd}(e:pv v=some rest):partsE pv (n-k) v=partsE pv (n-(k+1)) rest:=by
 rw[show n-k=(n-(k+1))+1 by omega];simp only[partsE,e]
theorem tail_drop {v rest:List Nd}{k:Nat}(ht:IsTail rest (v.drop k)):v.drop (v.length-rest.length)=rest:=by
 obtain⟨a,ha⟩:=ht
 have hl:v.length-k=a.length+rest.length:=by have:=congrArg List.length ha;simpa using this
 by_cases h:k≤v.length
 · rw[show v.length-rest.length=k+a.length by omega,←List.drop_drop,ha,List.drop_left]
 · have h1:rest.length=0:=by omega
   have h2:=List.eq_nil_of_length_eq_zero h1
   subst h2
   simp
theorem pastParts_any (f:Nat)(ih:XOk f)(v:List Nd)(p:Option Addr)(c at0:Nat)(cnt:Int)(w:World)(hat0:at0≤v.length)(hf:v.length-at0<f)(hv:NL w p v)(hl:v.length≤maxLen)(hcn:cnt≤9223372036854775807):
 Calls Tryz.prog 54 #[.slice p v.length c,.int .i64 at0,.int .i64 cnt] w fun e w'=>e= .returned (XE v.length (partsE (pastE f) cnt.toNat (v.drop at0)))∧Below w.heap.size w w':=by
 have HM:Hid (v.length≤maxLen):=hl
 unfold maxLen at hl
 generalize hR:partsE (pastE f) cnt.toNat (v.drop at0)=R
 have HR:Hid (_=_):=hR
 clear hR
 have HI:Hid (XOk f):=ih
 clear ih
 go_enter Tryz.func54,Tryz.ntmps54
 go_wp2
 go_loopw [1,11] (fun sa i wr=>∃k at_:Nat,k≤cnt.toNat∧i= .int .i64 k∧sa= .int .i64 at_∧at0≤at_∧at_≤v.length∧Hid (partsE (pastE f) (cnt.toNat-k) (v.drop at_)=R)∧Below w.heap.size w wr) (fun _ i _=>cnt.toNat-(intOf i).toNat)
 case atStart=>exact⟨0,at0,Nat.zero_le _,rfl,rfl,Nat.le_refl _,hat0,HR,Below.refl _ _⟩
 case round=>
  obtain⟨k,at_,hk,rfl,rfl,h01,hat,HS,hb⟩:=hrel
  by_cases hlt:(k:Int)<cnt
  · have hkn:k<cnt.toNat:=by omega
    have hc:=HI.out v p c at_ wr hat (by omega) (hv.up hb) HM.out
    cases hp:pastE f (v.drop at_)with
    | none=>
      rw[hp]at hc
      have HN:Hid (none=R):=by rw[←HS.out,partsE_none hkn hp];rfl
      clear hp HS HR
      unfold XE at hc
      simp only[]at hc
      go_wp2_with fail
      refine hc.mono ?_
      rintro e w1 ⟨rfl,hb1⟩
      go_wp2
      go_ret2
      exact⟨by rw[←HN.out];rfl,hb.trans (hb1.mono hb.size)⟩
    | some rest=>
      rw[hp]at hc
      obtain⟨hsh,htl⟩:=pastE_shorter hp
      have hsh2:rest.length<v.length-at_:=by simpa using hsh
      have HN:Hid (partsE (pastE f) (cnt.toNat-(k+1)) (v.drop (v.length-rest.length))=R):=by rw[tail_drop htl,←HS.out,partsE_some hkn hp];rfl
      clear hp HS HR hsh htl
      unfold XE at hc
      simp only[]at hc
      generalize hen:v.length-rest.length=en at *
      have hen1:at_<en:=by omega
      have hen2:en≤v.length:=by omega
      clear hen hsh2
      go_wp2_with fail
      refine hc.mono ?_
      rintro e w1 ⟨rfl,hb1⟩
      go_wp2
      go_roundw
      case rel=>exact⟨k+1,en,by omega,by go_num,rfl,by omega,hen2,HN,hb.trans (hb1.mono hb.size)⟩
      case measure=>simp[intOf];omega
  · have HN:Hid (some (v.drop at_)=R):=by
     have:=HS.out
     rw[show cnt.toNat-k=0 by omega]at this
     exact this
    have HE:Hid (v.length-(v.drop at_).length=at_):=by show _=_;simp;omega
    clear HS HR
    go_wp2
    go_ret2
    exact⟨by rw[←HN.out];unfold XE;simp only[];rw[HE.out];rfl,hb⟩
theorem recLoopE_nil {pv:List Nd→Option (List Nd)}{n k:Nat}(h:k<n){last:ByteArray}:recLoop pv (n-k) last []=none:=by
 rw[show n-k=(n-(k+1))+1 by omega];rfl
theorem recLoopE_bad {pv:List Nd→Option (List Nd)}{n k:Nat}(h:k<n){last:ByteArray}{x:Nd}{r:List Nd}(e:¬(x.op=7∧ndOk x=true∧cmpB last x.s<0)):recLoop pv (n-k) last (x::r)=none:=by
 rw[show n-k=(n-(k+1))+1 by omega];simp only[recLoop,if_neg e]
theorem recLoopE_go {pv:List Nd→Option (List Nd)}{n k:Nat}(h:k<n){last:ByteArray}{x:Nd}{r:List Nd}(e:x.op=7∧ndOk x=true∧cmpB last x.s<0):
 recLoop pv (n-k) last (x::r)=match pv r with | none=>none | some rest=>recLoop pv (n-(k+1)) x.s rest:=by
 rw[show n-k=(n-(k+1))+1 by omega];simp only[recLoop,if_pos e];cases pv r<;>rfl
theorem leq_no {a b:ByteArray}(h:cmpB b a<0):Op.bytesLess a.toList b.toList=false∧(a.toList == b.toList)=false:=by
 rw[bytesLess_cb,ByteArray.toList_eq,ByteArray.toList_eq]
 have h1:=cmpB_is.neg a b
 refine⟨?_,?_⟩
 · rw[decide_eq_false_iff_not]
   show ¬cmpB a b<0
   omega
 · rw[beq_eq_false_iff_ne]
   intro e
   rw[bytes_inj e,cmpB_is.self]at h
   omega
theorem leq_yes {a b:ByteArray}(h:¬cmpB b a<0):Op.bytesLess a.toList b.toList=true∨(Op.bytesLess a.toList b.toList=false∧(a.toList == b.toList)=true):=by
 rw[bytesLess_cb,ByteArray.toList_eq,ByteArray.toList_eq]
 have h1:=cmpB_is.neg a b
 by_cases h0:cmpB a b<0
 · exact .inl (decide_eq_true h0)
 · refine .inr ⟨decide_eq_false h0,?_⟩
   rw[beq_iff_eq]
   have:a=b:=(cmpB_is.zero a b).1 (by omega)
   rw[this]
theorem drop_cons' {v:List Nd}{k:Nat}(h:k<v.length):v.drop k=v[k]::v.drop (k+1):=List.drop_eq_getElem_cons h
set_option maxRecDepth 100000 in
theorem pastFields_any (f:Nat)(ih:XOk f)(v:List Nd)(p:Option Addr)(c at0:Nat)(cnt:Int)(w:World)(hat0:at0≤v.length)(hf:v.length-at0<f)(hv:NL w p v)(hl:v.length≤maxLen)(hcn:cnt≤9223372036854775807):
 Calls Tryz.prog 53 #[.slice p v.length c,.int .i64 at0,.int .i64 cnt] w fun e w'=>e= .returned (XE v.length (recLoop (pastE f) cnt.toNat ⟨#[]⟩ (v.drop at0)))∧Below w.heap.size w w':=by
 have HM:Hid (v.length≤maxLen):=hl
 unfold maxLen at hl
 generalize hR:recLoop (pastE f) cnt.toNat ⟨#[]⟩ (v.drop at0)=R
 have HR:Hid (_=_):=hR
 clear hR
 have HI:Hid (XOk f):=ih
 clear ih
 go_enter Tryz.func53,Tryz.ntmps53
 go_wp2
 go_loopw [1,8,12] (fun sa sl i wr=>∃(k at_:Nat) (last:ByteArray),k≤cnt.toNat∧i= .int .i64 k∧sa= .int .i64 at_∧sl= .string last∧at0≤at_∧at_≤v.length∧Hid (recLoop (pastE f) (cnt.toNat-k) last (v.drop at_)=R)∧Below w.heap.size w wr) (fun _ _ i _=>cnt.toNat-(intOf i).toNat)
 case atStart=>exact⟨0,at0,⟨#[]⟩,Nat.zero_le _,rfl,rfl,rfl,Nat.le_refl _,hat0,HR,Below.refl _ _⟩
 case round=>
  obtain⟨k,at_,last,hk,rfl,rfl,rfl,h01,hat,HS,hb⟩:=hrel
  have hvr:=hv.up hb
  by_cases hlt:(k:Int)<cnt
  · have hkn:k<cnt.toNat:=by omega
    by_cases halt:at_<v.length
    · have hdr:=drop_cons' halt
      obtain⟨b,off,rfl,hbw,x0,x1,x2,x3,xw⟩:=hvr.at halt
      rw[hdr]at HS
      clear hdr
      generalize v[at_]=x at *
      have i1:(at_:Int)<(v.length:Int):=by omega
      have HF:=fun w=>tField_any x w xw
      have i2:¬v.length≤at_:=by omega
      cases hfd:(x.op == 7 && ndOk x)
      · rw[hfd]at HF
        have HN:Hid (none=R):=by
         rw[←HS.out,recLoopE_bad hkn (fun h=>by simp[h.1,h.2.1]at hfd)];rfl
        clear HS HR hfd
        go_wp2_with fail
        refine(HF _).mono ?_
        rintro e w1 ⟨rfl,hb1⟩
        go_wp2
        go_ret2
        exact⟨by rw[←HN.out];rfl,hb.trans (hb1.mono hb.size)⟩
      · rw[hfd]at HF
        have hfd2:x.op=7∧ndOk x=true:=by simpa using hfd
        by_cases hlt0:¬cmpB last x.s<0
        · have HN:Hid (none=R):=by
           rw[←HS.out,recLoopE_bad hkn (fun h=>hlt0 h.2.2)];rfl
          have hbl:=leq_yes hlt0
          clear HS HR hfd hfd2 hlt0
          rcases hbl with hbl | ⟨hbl,hbl2⟩
          all_goals
           go_wp2_with fail
           refine(HF _).mono ?_
           rintro e w1 ⟨rfl,hb1⟩
           have z2:=(hb1.cell (p:=⟨b,off+at_*4+2,none⟩) hbw).trans x2
           clear x0 x1 x2 x3
           go_wp2
           go_ret2
           exact⟨by rw[←HN.out];rfl,hb.trans (hb1.mono hb.size)⟩
        · have hlt0:=Decidable.not_not.1 hlt0
          have HN:=(recLoopE_go (pv:=pastE f) (r:=v.drop (at_+1)) hkn ⟨hfd2.1,hfd2.2,hlt0⟩).symm.trans HS.out
          obtain⟨hbl,hbl2⟩:=leq_no hlt0
          have hcall:=fun w1 (hb1:Below wr.heap.size wr w1)=>HI.out v (some ⟨b,off,none⟩) c (at_+1) w1 (by omega) (by omega) (hvr.up hb1) HM.out
          rw[show((at_+1:Nat):Int)=(at_:Int)+1 by omega]at hcall
          clear HS HR hfd hfd2 hlt0
          cases hp:pastE f (v.drop (at_+1))with
          | none=>
            rw[hp]at hcall HN
            have HN2:Hid (none=R):=HN
            unfold XE at hcall
            simp only[]at hcall
            clear HN hp
            go_wp2_with fail
            refine(HF _).mono ?_
            rintro e w1 ⟨rfl,hb1⟩
            have z2:=(hb1.cell (p:=⟨b,off+at_*4+2,none⟩) hbw).trans x2
            have hc1:=hcall _ hb1
            clear x0 x1 x2 x3 hcall
            go_wp2_with fail
            refine hc1.mono ?_
            rintro e w2 ⟨rfl,hb2⟩
            have hb3:=hb1.trans (hb2.mono hb1.size)
            go_wp2
            go_ret2
            exact⟨by rw[←HN2.out];rfl,hb.trans (hb3.mono hb.size)⟩
          | some rest=>
            rw[hp]at hcall HN
            obtain⟨hsh,htl⟩:=pastE_shorter hp
            have hsh2:rest.length<v.length-(at_+1):=by simpa using hsh
            have HN2:Hid (recLoop (pastE f) (cnt.toNat-(k+1)) x.s (v.drop (v.length-rest.length))=R):=by rw[tail_drop htl];exact HN
            unfold XE at hcall
            simp only[]at hcall
            generalize hen:v.length-rest.length=en at *
            have hen1:at_<en:=by omega
            have hen2:en≤v.length:=by omega
            clear HN hp hsh htl hen hsh2
            go_wp2_with fail
            refine(HF _).mono ?_
            rintro e w1 ⟨rfl,hb1⟩
            have z2:=(hb1.cell (p:=⟨b,off+at_*4+2,none⟩) hbw).trans x2
            have hc1:=hcall _ hb1
            clear x0 x1 x2 x3 hcall
            go_wp2_with fail
            refine hc1.mono ?_
            rintro e w2 ⟨rfl,hb2⟩
            have z3:=(hb2.cell (p:=⟨b,off+at_*4+2,none⟩) (Nat.lt_of_lt_of_le hbw hb1.size)).trans z2
            have hb3:=hb1.trans (hb2.mono hb1.size)
            clear z2
            go_wp2
            go_roundw
            case rel=>exact⟨k+1,en,x.s,by omega,by go_num,rfl,rfl,by omega,hen2,HN2,hb.trans (hb3.mono hb.size)⟩
            case measure=>simp[intOf];omega
    · have i1:¬(at_:Int)<(v.length:Int):=by omega
      have i2:(v.length:Int)≤(at_:Int):=by omega
      have HN:Hid (none=R):=by
       have:=HS.out
       rw[List.drop_of_length_le (by omega),recLoopE_nil hkn]at this
       exact this
      clear HS HR
      go_wp2
      go_ret2
      exact⟨by rw[←HN.out];rfl,hb⟩
  · have HN:Hid (some (v.drop at_)=R):=by
     have:=HS.out
     rw[show cnt.toNat-k=0 by omega]at this
     exact this
    have HE:Hid (v.length-(v.drop at_).length=at_):=by show _=_;simp;omega
    clear HS HR
    go_wp2
    go_ret2
    exact⟨by rw[←HN.out];unfold XE;simp only[];rw[HE.out];rfl,hb⟩
set_option maxRecDepth 100000 in
theorem pastExpr_step (f:Nat)(ih:XOk f):XOk (f+1):=by
 intro v p c at_ w hat hf hv hl
 have HM:Hid (v.length≤maxLen):=hl
 unfold maxLen at hl
 by_cases halt:at_<v.length
 · have hdr:=drop_cons' halt
   obtain⟨b,off,rfl,hbw,x0,x1,x2,x3,xw⟩:=hv.at halt
   rw[hdr]
   clear hdr
   generalize v[at_]=x at *
   have i1:(at_:Int)<(v.length:Int):=by omega
   have HP:=fun w=>partsOf_any x w xw
   cases hm:exMay x
   · rw[hm]at HP
     have HN:Hid (pastE (f+1) (x::v.drop (at_+1))=none):=pastE_bad (fun h=>by rw[(exMay_iff x).2 h]at hm;cases hm)
     clear hm
     go_enter Tryz.func34,Tryz.ntmps34
     go_wp2_with fail
     refine(HP _).mono ?_
     rintro e w1 ⟨rfl,hb⟩
     go_wp2
     go_ret2
     exact⟨by rw[HN.out];rfl,hb⟩
   · rw[hm,exCnt_may hm]at HP
     obtain⟨h7,hx⟩:=(exMay_iff x).1 hm
     by_cases h6:x.op=6
     · have e6:(x.op == 6)=true:=by simpa using h6
       have HN:Hid (pastE (f+1) (x::v.drop (at_+1))=_):=pastE_rec h7 hx h6
       have hpn:prt x=x.n:=by unfold prt;rw[if_pos (.inr h6)]
       have hc:=fun w1 (hb1:Below w.heap.size w w1)=>pastFields_any f ih v (some ⟨b,off,none⟩) c (at_+1) (prt x) w1 (by omega) (by omega) (hv.up hb1) HM.out (by rw[hpn];exact xw.2.2)
       rw[hpn,←HN.out,show((at_+1:Nat):Int)=(at_:Int)+1 by omega]at hc
       rw[hpn]at HP
       clear hm h7 hx h6 HN hpn
       generalize pastE (f+1) (x::v.drop (at_+1))=R at *
       go_enter Tryz.func34,Tryz.ntmps34
       go_wp2_with fail
       refine(HP _).mono ?_
       rintro e w1 ⟨rfl,hb1⟩
       have z0:=(hb1.cell (p:=⟨b,off+at_*4,none⟩) hbw).trans x0
       have hc1:=hc _ hb1
       clear x0 x1 x2 x3 hc
       cases R with
       | none=>
         unfold XE at hc1
         simp only[]at hc1
         go_wp2_with fail
         refine hc1.mono ?_
         rintro e w2 ⟨rfl,hb2⟩
         go_wp2
         go_ret2
         exact⟨rfl,hb1.trans (hb2.mono hb1.size)⟩
       | some r=>
         unfold XE at hc1
         simp only[]at hc1
         generalize hen:v.length-r.length=en at *
         have HEN:Hid (_=_):=hen
         clear hen
         go_wp2_with fail
         refine hc1.mono ?_
         rintro e w2 ⟨rfl,hb2⟩
         go_wp2
         go_ret2
         exact⟨by unfold XE;simp only[];rw[HEN.out];rfl,hb1.trans (hb2.mono hb1.size)⟩
     · have e6:(x.op == 6)=false:=by simpa using h6
       have HN:Hid (pastE (f+1) (x::v.drop (at_+1))=_):=pastE_parts h7 hx h6
       have hc:=fun w1 (hb1:Below w.heap.size w w1)=>pastParts_any f ih v (some ⟨b,off,none⟩) c (at_+1) (prt x) w1 (by omega) (by omega) (hv.up hb1) HM.out (by have:=xw.2.2;unfold prt;repeat' split<;>omega)
       rw[←HN.out,show((at_+1:Nat):Int)=(at_:Int)+1 by omega]at hc
       clear hm h7 hx h6 HN
       generalize pastE (f+1) (x::v.drop (at_+1))=R at *
       generalize prt x=cn at *
       go_enter Tryz.func34,Tryz.ntmps34
       go_wp2_with fail
       refine(HP _).mono ?_
       rintro e w1 ⟨rfl,hb1⟩
       have z0:=(hb1.cell (p:=⟨b,off+at_*4,none⟩) hbw).trans x0
       have hc1:=hc _ hb1
       clear x0 x1 x2 x3 hc
       cases R with
       | none=>
         unfold XE at hc1
         simp only[]at hc1
         go_wp2_with fail
         refine hc1.mono ?_
         rintro e w2 ⟨rfl,hb2⟩
         go_wp2
         go_ret2
         exact⟨rfl,hb1.trans (hb2.mono hb1.size)⟩
       | some r=>
         unfold XE at hc1
         simp only[]at hc1
         generalize hen:v.length-r.length=en at *
         have HEN:Hid (_=_):=hen
         clear hen
         go_wp2_with fail
         refine hc1.mono ?_
         rintro e w2 ⟨rfl,hb2⟩
         go_wp2
         go_ret2
         exact⟨by unfold XE;simp only[];rw[HEN.out];rfl,hb1.trans (hb2.mono hb1.size)⟩
 · have i1:(v.length:Int)≤(at_:Int):=by omega
   have HN:Hid (pastE (f+1) (v.drop at_)=none):=by show _=_;rw[List.drop_of_length_le (by omega)];rfl
   go_enter Tryz.func34,Tryz.ntmps34
   go_wp2
   go_ret2
   exact⟨by rw[HN.out];rfl,Below.refl _ _⟩
theorem pastExpr_any:∀f,XOk f
 | 0=>fun v p c at_ w _ h=>absurd h (by omega)
 | f+1=>pastExpr_step f (pastExpr_any f)
theorem tcheck_any (v:List Nd)(p:Option Addr)(c:Nat)(w:World)(hv:NL w p v)(hl:v.length≤maxLen):
 Calls Tryz.prog 21 #[.slice p v.length c] w fun e w'=>e= .returned (eV (xfault v))∧Below w.heap.size w w':=by
 by_cases h:200<v.length
 · have HF:Hid (_=_):=xfault_long h
   have h':(200:Int)<(v.length:Int):=by omega
   go_enter Tryz.func21,Tryz.ntmps21
   go_wp2
   go_ret
   exact⟨by rw[HF.out];rfl,Below.refl _ _⟩
 · have h':¬(200:Int)<(v.length:Int):=by omega
   have hc:=pastExpr_any (v.length+1) v p c 0 w (Nat.zero_le _) (by omega) hv hl
   rw[List.drop_zero]at hc
   cases hp:pastE (v.length+1) v with
   | none=>
     rw[hp]at hc
     have HF:Hid (_=_):=xfault_bad h (by unfold isEx;rw[hp])
     unfold XE at hc
     simp only[]at hc
     clear hp h
     go_enter Tryz.func21,Tryz.ntmps21
     go_wp2_with fail
     refine hc.mono ?_
     rintro e w1 ⟨rfl,hb⟩
     go_wp2
     go_ret
     exact⟨by rw[HF.out];rfl,hb⟩
   | some r=>
     rw[hp]at hc
     have hsh:=(pastE_shorter hp).1
     unfold XE at hc
     simp only[]at hc
     cases r with
     | nil=>
       have HF:Hid (_=_):=xfault_ok h ((isEx_iff v).2 hp)
       rw[List.length_nil,Nat.sub_zero]at hc
       clear hp h hsh
       go_enter Tryz.func21,Tryz.ntmps21
       go_wp2_with fail
       refine hc.mono ?_
       rintro e w1 ⟨rfl,hb⟩
       go_wp2
       go_ret
       exact⟨by rw[HF.out];rfl,hb⟩
     | cons y r=>
       have HF:Hid (_=_):=xfault_bad h (by unfold isEx;rw[hp];rfl)
       generalize hen:v.length-(y::r).length=en at *
       have hne:((en:Int) != (v.length:Int))=true:=by
        rw[List.length_cons]at hen hsh
        simp;omega
       clear hp h hsh hen
       go_enter Tryz.func21,Tryz.ntmps21
       go_wp2_with fail
       refine hc.mono ?_
       rintro e w1 ⟨rfl,hb⟩
       go_wp2
       go_ret
       exact⟨by rw[HF.out];rfl,hb⟩
theorem ret_it {k:IntKind}{a b:Int}(h:a=b):Ending.returned (.int k a)= .returned (.int k b):=by rw[h]
def lenV:Value→Nat
 | .slice _ n _=>n
 | _=>0
theorem Segs.length {f:Nat}{u:List Nd}{ss:List (List Nd)}(h:Segs f u ss):ss.length≤u.length:=by
 induction h with
 | nil=>simp
 | cons h hs ih=>
   obtain⟨a',e,_,hne⟩:=itemP_off h
   have:=List.append_cancel_right e
   subst this
   have:=List.length_pos_iff.2 hne
   simp;omega
theorem below_fn (x:Nd)(w:World):
 Calls Tryz.prog 200 #[x.val] w fun e w'=>e= .returned (.int .i64 (bel x))∧Below w.heap.size w w':=by
 obtain⟨op,n,s,t⟩:=x
 unfold Nd.val
 by_cases h5:op=5
 · subst h5
   go_enter Tryz.func200,Tryz.ntmps200
   go_wp2
   go_ret
   exact⟨ret_it (by simp[bel]),(Below.refl _ _).alloc (Nat.le_refl _) _⟩
 by_cases h6:op=6
 · subst h6
   go_enter Tryz.func200,Tryz.ntmps200
   go_wp2
   go_ret
   exact⟨ret_it (by simp[bel]),(Below.refl _ _).alloc (Nat.le_refl _) _⟩
 by_cases h7:op=7
 · subst h7
   go_enter Tryz.func200,Tryz.ntmps200
   go_wp2
   go_ret
   exact⟨ret_it (by simp[bel]),(Below.refl _ _).alloc (Nat.le_refl _) _⟩
 have e5:(op == 5)=false:=by simpa using h5
 have e6:(op == 6)=false:=by simpa using h6
 have e7:(op == 7)=false:=by simpa using h7
 have HB:Hid (bel ⟨op,n,s,t⟩=0):=by show _=_;simp[bel,h5,h6,h7]
 clear h5 h6 h7
 go_enter Tryz.func200,Tryz.ntmps200
 go_wp2
 go_ret
 exact⟨ret_it HB.out.symm,(Below.refl _ _).alloc (Nat.le_refl _) _⟩
theorem size_fn (a r:List Nd)(ha:Off a 1)(p:Option Addr)(c:Nat)(w:World)(hv:NL w p (a++r))(hl:(a++r).length≤maxLen):
 Calls Tryz.prog 166 #[.slice p (a++r).length c] w fun e w'=>e= .returned (.int .i64 a.length)∧Below w.heap.size w w':=by
 unfold maxLen at hl
 have hl2:a.length≤(a++r).length:=by simp
 go_enter Tryz.func166,Tryz.ntmps166
 go_wp2
 go_loopw [3,4] (fun sm se wr=>∃(k:Nat) (m:Int),k≤a.length∧sm= .int .i64 m∧se= .int .i64 k∧Hid (reach (a.drop k) m=some 0)∧Below w.heap.size w wr) (fun _ i _=>a.length-(intOf i).toNat)
 case atStart=>exact⟨0,1,Nat.zero_le _,rfl,rfl,by show _=_;simpa using ha.run 1 (by omega),Below.refl _ _⟩
 case round=>
  obtain⟨k,m,hk,rfl,rfl,HR,hb⟩:=hrel
  by_cases hlt:k<a.length
  · have hd:a.drop k=a[k]::a.drop (k+1):=List.drop_eq_getElem_cons hlt
    have h1:=HR.out
    rw[hd]at h1
    simp only[reach]at h1
    have hm:0<m:=by
     by_cases h:0<m
     · exact h
     · rw[if_neg h]at h1;cases h1
    rw[if_pos hm]at h1
    have hle:=reach_le _ _ (fun x hx=>ha.pos x (List.mem_of_mem_drop hx)) h1
    have hle0:=reach_le _ _ (fun x hx=>ha.pos x (List.mem_of_mem_drop hx)) HR.out
    have hb0:=ha.pos a[k] (List.getElem_mem _)
    simp at hle hle0
    have hk2:k<(a++r).length:=by omega
    obtain⟨bb,oo,rfl,hbw,x0,x1,x2,x3,xw⟩:=(hv.up hb).at hk2
    have hg:(a++r)[k]=a[k]:=by rw[List.getElem_append_left hlt]
    rw[hg]at x0 x1 x2 x3 xw
    have HN:Hid (_=_):=h1
    have i1:(k:Int)<((a++r).length:Int):=by omega
    have hbel:=fun w=>below_fn a[k] w
    clear hg
    generalize a[k]=x at *
    clear h1 hd HR
    generalize (a++r).length=n at *
    go_wp2_with fail
    refine(hbel _).mono ?_
    rintro e w1 ⟨rfl,hb1⟩
    have hb2:=hb.trans (hb1.mono hb.size)
    generalize bel x=z at *
    go_wp2
    go_roundw
    case rel=>exact⟨k+1,m+(z-1),by omega,by go_num,by go_num,HN,hb2⟩
    case measure=>simp[intOf];omega
  · obtain rfl:k=a.length:=by omega
    have hm0:m=0:=by
     have:=HR.out
     rw[List.drop_length]at this
     simpa[reach]using this
    subst hm0
    clear HR
    go_wp2
    go_ret
    exact⟨rfl,hb⟩
set_option maxRecDepth 100000 in
theorem cloneNodes_fn (L:List Nd)(b off c:Nat)(w:World)(hv:NL w (some ⟨b,off,none⟩) L)(hl:L.length≤1099511627776):
 Calls Tryz.prog 29 #[.slice (some ⟨b,off,none⟩) L.length c] w fun e w'=>(∃q c',e= .returned (.slice q L.length c')∧NT w' 0 q L∧L.length≤c'∧c'≤maxLen)∧Below w.heap.size w w':=by
 obtain⟨i0,hi,hz0,hz1,hz2⟩:=info_parts Tryz.infoNode
 have HC:Hid (∀j u,(ncells L)[j]? =some u→w.cell? ⟨b,off+j,none⟩=some u):=hv.cells
 have HW:=hv.wfs
 have q22:∀(w:World) (a:Option Addr) (n c n' c':Nat),(binOp .eql 30 (.slice a n c) (.slice none n' c')).run Tryz.prog w= .ok (.bool a.isNone) w:=fun w a n c n' c'=>Lib.run_eql_slice_nil w _ _ a n c n' c' Tryz.underlying30
 go_enter Tryz.func29,Tryz.ntmps29
 go_wp2_with (at_builtin;refine wpList_append_own _ rfl _ _ 30 rfl w.heap.size 47 i0 _ 4 48 Tryz.underlying30 hi hz0 hz1 hz2 rfl (by decide) _ _ _ rfl (World.ownsRow_made w #[] 0 (Nat.le_refl _) (Nat.zero_le _) (by simp)) ⟨b,off,none⟩ L.length c (ncells L) rfl ?qc1 ?qc2 ?qc3 ?qc4 ?qc5 ?qc6 ?_)
 case qc1=>exact ncells_length L
 case qc2=>
  intro j u hu
  have hh:=HC.out j u hu
  have hlt:=World.block_lt_of_cell? w _ hh
  have hadd:(⟨b,off,none⟩:Addr).add j=⟨b,off+j,none⟩:=by unfold Addr.add;split<;>simp_all
  rw[hadd]
  exact(Below.cell (p:=⟨b,off+j,none⟩) ((Below.refl w.heap.size w).alloc (Nat.le_refl _) _) hlt).trans hh
 case qc3=>exact ncells_one L
 case qc4=>unfold maxLen;omega
 case qc5=>omega
 case qc6=>simp
 intro v' w' h1 h2 h3
 obtain⟨q,c',rfl,hnt,hl',hm'⟩:=NL.of_row HW h1
 have hbel:Below w.heap.size w w':=((Below.refl w.heap.size w).alloc (Nat.le_refl _) (.cells #[] 47)).grown h2 (by simp) (fun k hk=>by simp[Value.ownBlock]at hk;omega)
 clear h1 h2 h3 hi hz0 hz1 hz2
 go_wp2
 go_ret
 exact⟨⟨q,c',rfl,hnt,hl',hm'⟩,hbel⟩
set_option maxRecDepth 100000 in
theorem items_fn (f:Nat)(x:Nd)(r:List Nd)(ss:List (List Nd))(hss:Segs f r ss)(b off c:Nat)(w:World)(hv:NL w (some ⟨b,off,none⟩) (x::r))(hbw:b<w.heap.size)(hl:(x::r).length≤200)(hc:(x::r).length≤c)(hcm:c≤maxLen):
 Calls Tryz.prog 127 #[.slice (some ⟨b,off,none⟩) (x::r).length c] w fun e w'=>(∃lv,e= .returned lv∧OL w' w.heap.size lv ss)∧Below w.heap.size w w':=by
 unfold maxLen at hcm
 simp only[List.length_cons]at *
 have hsl:=hss.length
 have HSS:Hid (Segs f r ss):=hss
 clear hss
 obtain⟨pr,hpr,hnr⟩:∃pr,(if c=1 then some (⟨b,off,none⟩:Addr)else some ⟨b,off+4,none⟩)=some ⟨b,pr,none⟩∧NL w (some ⟨b,pr,none⟩) r:=by
  by_cases h:c=1
  · exact⟨off,if_pos h,.inl (List.eq_nil_of_length_eq_zero (by omega))⟩
  · exact⟨off+4,if_neg h,hv.tail⟩
 have j1:(1:Int)≤(r.length:Int)+1:=by omega
 go_enter Tryz.func127,Tryz.ntmps127
 go_wp2
 go_loopw [3,4] (fun lv rv wr=>∃(done:List (List Nd)) (u:List Nd) (ss':List (List Nd)) (o c':Nat),rv= .slice (some ⟨b,o,none⟩) u.length c'∧OL wr w.heap.size lv done∧Hid (Segs f u ss')∧Hid (done++ss'=ss)∧Hid (NL w (some ⟨b,o,none⟩) u)∧u.length≤c'∧c'≤9223372036854775807∧u.length≤200∧Below w.heap.size w wr) (fun _ rv _=>lenV rv)
 case atStart=>exact⟨[],r,ss,pr,c-1,rfl,OL.nil _ _,HSS,rfl,hnr,by omega,by omega,by omega,Below.refl _ _⟩
 case round=>
  obtain⟨done,u,ss',o,c',rfl,hol,HSg,HD,HN,huc,hcc,hu200,hb⟩:=hrel
  cases hsg:HSg.out with
  | nil=>
    have HE:Hid (done=ss):=by have:=HD.out;show _=_;simpa using this
    clear hsg
    go_wp2
    go_ret
    exact⟨⟨_,rfl,by rw[←HE.out];exact hol⟩,hb⟩
  | @cons a r' ss2 h hs=>
    obtain⟨a',e,hoff,hne⟩:=itemP_off h
    obtain rfl:=List.append_cancel_right e
    have hpos:=List.length_pos_iff.2 hne
    have HS2:Hid (Segs f r' ss2):=hs
    have hu:=HN.out.up hb
    have hsz:=size_fn a r' hoff (some ⟨b,o,none⟩) c' wr hu (by unfold maxLen;omega)
    have hdl:done.length≤200:=by
     have:=congrArg List.length HD.out
     simp at this;omega
    clear hsg h hs e
    have HO:Hid (OL wr w.heap.size _ done):=hol
    clear hol
    simp only[List.length_append]at hsz huc hu200 ⊢
    have k1:(0:Int)<(a.length:Int)+(r'.length:Int):=by omega
    go_wp2_with fail
    refine hsz.mono ?_
    rintro e w1 ⟨rfl,hb1⟩
    have hol1:=HO.out.below hb1 hb.size
    have hb2:=hb.trans (hb1.mono hb.size)
    have k2:(a.length:Int)≤(c':Int):=by omega
    have k3:(a.length:Int)≤(a.length:Int)+(r'.length:Int):=by omega
    have hNT:NT w1 w.heap.size (some ⟨b,o,none⟩) a:=⟨by have:=(HN.out.up hb2).take a.length;rw[List.take_left]at this;exact this,.inr ⟨b,o,rfl,.inl hbw⟩⟩
    clear hsz HO
    go_wp2_with (at_builtin;refine append_list w1 rfl (.tmp 13) (.tmp 17) rfl w.heap.size u3 done rfl hol1 a (some ⟨b,o,none⟩) c' hNT (by omega) (by unfold maxLen;omega) rfl (by omega) hb2.size ?_;intro v' w2 hol2 hk2)
    obtain⟨o2,ho2,hn2⟩:∃o2,(if c'=a.length then some (⟨b,o,none⟩:Addr)else some ⟨b,o+a.length*4,none⟩)=some ⟨b,o2,none⟩∧NL w (some ⟨b,o2,none⟩) r':=by
     by_cases h:c'=a.length
     · exact⟨o,if_pos h,.inl (List.eq_nil_of_length_eq_zero (by omega))⟩
     · refine⟨o+a.length*4,if_neg h,?_⟩
       have:=HN.out.drop (r:=r') ⟨a,rfl⟩ ((a++r').length+1) (by omega)
       rw[show o+4*min ((a++r').length-r'.length) ((a++r').length+1-1)=o+a.length*4 by simp only[List.length_append];omega]at this
       exact this
    rw[ho2]
    go_roundw
    case rel=>exact⟨done++[a],r',ss2,o2,c'-a.length,rfl,hol2,HS2,by show _=_;rw[←HD.out];simp,hn2,by omega,by omega,by omega,hb2.trans (hk2.bel)⟩
    case measure=>simp[lenV];omega
theorem Strict.sub {l:List (List Nd)}:∀ {m:List (List Nd)},Strict l→Strict m→(∀x∈l,x∈m)→l.Sublist m:=by
 induction l with
 | nil=>intro m _ _ _;exact List.nil_sublist _
 | cons a l ih=>
   intro m h1 h2 h
   induction m with
   | nil=>have:=h a (by simp);cases this
   | cons b m ihm=>
     have h1':=List.pairwise_cons.1 h1
     have h2':=List.pairwise_cons.1 h2
     by_cases e:a=b
     · subst e
       refine List.Sublist.cons_cons _ (ih h1'.2 h2'.2 (fun x hx=>?_))
       rcases List.mem_cons.1 (h x (by simp[hx]))with e | hm
       · subst e
         have:=h1'.1 _ hx
         rw[lsC_self]at this;omega
       · exact hm
     · refine List.Sublist.cons _ (ihm h2'.2 (fun x hx=>?_))
       rcases List.mem_cons.1 (h x hx)with e2 | hm
       · subst e2
         rcases List.mem_cons.1 hx with e3 | hx
         · exact absurd e3.symm e
         · have k1:=h1'.1 _ hx
           have ha:=h a (by simp)
           rcases List.mem_cons.1 ha with e4 | ha
           · exact absurd e4 e
           · have k2:=h2'.1 a ha
             have:=lsC_is.lt_le k1 (by omega:lsC x a≤0)
             rw[lsC_self]at this;omega
       · exact hm
theorem flat_le {l m:List (List Nd)}(h:l.Sublist m):l.flatten.length≤m.flatten.length:=by
 induction h with
 | slnil=>simp
 | cons a _ ih=>simp only[List.flatten_cons,List.length_append];omega
 | cons_cons a _ ih=>simp only[List.flatten_cons,List.length_append];omega
def setN (l:List (List Nd)):List Nd:=⟨5,l.length,⟨#[]⟩,⟨#[]⟩⟩::l.flatten
theorem own_set {w:World}{base:Nat}{e:TypeId}{size n cap g:Nat}{xs:List Value}(h:w.ownsRow base e size (.slice (some ⟨g,0,none⟩) n cap) n xs)(j:Nat)(u:Value):(w.setCell ⟨g,j,none⟩ u).ownsRow base e size (.slice (some ⟨g,0,none⟩) n cap) n (xs.set j u):=by
 refine⟨by rw[List.length_set];exact h.1,?_⟩
 rcases h.2 with⟨hv,_⟩ | ⟨g',cap',cur,hv,hb,hgg,hle,hm,hsz,htk⟩
 · cases hv
 · cases hv
   refine .inr ⟨g,cap,cur.setIfInBounds j u,rfl,hb,?_,hle,hm,by simpa using hsz,?_⟩
   · simp only[World.setCell,Array.getElem?_modify,hgg,if_true,Option.map_some]
     rfl
   · rw[←htk]
     simp[List.take_set]
theorem ON.count {w:World}{base cap g:Nat}{k:Int}{L:List Nd}(hk:k≤9223372036854775807)(h:ON w base (.slice (some ⟨g,0,none⟩) (L.length+1) cap) (⟨5,k-1,⟨#[]⟩,⟨#[]⟩⟩::L)):ON (w.setCell ⟨g,1,none⟩ (.int .i64 k)) base (.slice (some ⟨g,0,none⟩) (L.length+1) cap) (⟨5,k,⟨#[]⟩,⟨#[]⟩⟩::L):=by
 refine⟨?_,fun x hx=>?_⟩
 · have:=own_set h.1 1 (.int .i64 k)
   have e:(ncells (⟨5,k-1,⟨#[]⟩,⟨#[]⟩⟩::L)).set 1 (.int .i64 k)=ncells (⟨5,k,⟨#[]⟩,⟨#[]⟩⟩::L):=by simp[ncells]
   rw[e]at this
   exact this
 · rcases List.mem_cons.1 hx with rfl | hx
   · exact⟨Nat.zero_le _,Nat.zero_le _,hk⟩
   · exact h.2 x (by simp[hx])
theorem setN_snoc (done:List (List Nd))(P:List Nd):setN (done++[P])=(⟨5,(done.length:Int)+1,⟨#[]⟩,⟨#[]⟩⟩::done.flatten)++P:=by
 simp[setN]
end Go.Proofs.YtlnhaajjoplafaaGreatDoor
namespace Go.Proofs.YtlnhaajjoplafaaGreatDoor
theorem mem_flat {l:List (List Nd)}{v:List Nd}(h:v∈l):v.length≤l.flatten.length:=by
 induction l with
 | nil=>cases h
 | cons a l ih=>
   simp only[List.flatten_cons,List.length_append]
   rcases List.mem_cons.1 h with rfl | h
   · omega
   · have:=ih h;omega
theorem strict_loop (g:Nat):∀(l:List (List Nd)) (last:Option (List Nd)),Strict l→(∀v∈l,vfault v=0)→(∀v∈l,v.length+1≤g)→(∀v∈l,aheadOf last v=true)→setLoop (pastV g) l.length last l.flatten=some []
 | [],_,_,_,_,_=>rfl
 | v::l,last,hs,hv,hg,ha=>by
   have hs':=List.pairwise_cons.1 hs
   simp only[List.length_cons,setLoop,List.flatten_cons]
   rw[value_behind (hv v (by simp)) l.flatten (hg v (by simp))]
   simp only[]
   have ht:(v++l.flatten).take ((v++l.flatten).length-l.flatten.length)=v:=by
    rw[List.length_append,Nat.add_sub_cancel,List.take_left]
   rw[ht,if_pos (ha v (by simp))]
   exact strict_loop g l (some v) hs'.2 (fun u hu=>hv u (by simp[hu])) (fun u hu=>hg u (by simp[hu])) (fun u hu=>by simp[aheadOf,hs'.1 u hu])
theorem setN_value {l:List (List Nd)}(hs:Strict l)(hv:∀v∈l,vfault v=0)(hl:(setN l).length≤200):vfault (setN l)=0:=by
 have h1:pastV ((setN l).length+1) (setN l)=some []:=by
  have h2:=strict_loop (setN l).length l none hs hv (fun v hm=>by have:=mem_flat hm;show v.length+1≤l.flatten.length+1;omega) (fun v _=>rfl)
  unfold setN at h2 ⊢
  simp only[pastV]
  rw[if_pos ⟨by decide,by simp[ndOk]⟩,if_pos trivial]
  simpa using h2
 unfold vfault
 rw[if_neg (by omega),if_pos]
 unfold isVal
 rw[h1]
 rfl
theorem value_strip {v:List Nd}(h:vfault v=0):strip v=v:=by
 obtain⟨x,r,rfl,_,h7,_⟩:=value_head h
 simp[strip,h7]
theorem values_strip {l:List (List Nd)}(hv:∀v∈l,vfault v=0):l.map strip=l:=by
 induction l with
 | nil=>rfl
 | cons v l ih=>rw[List.map_cons,value_strip (hv v (by simp)),ih (fun u hu=>hv u (by simp[hu]))]
theorem values_segs (g:Nat):∀(l:List (List Nd)),(∀v∈l,vfault v=0)→(∀v∈l,v.length+1≤g)→Segs g l.flatten l
 | [],_,_=>.nil
 | v::l,hv,hg=>by
   have h1:=value_behind (hv v (by simp)) l.flatten (hg v (by simp))
   refine .cons (a:=v) ?_ (values_segs g l (fun u hu=>hv u (by simp[hu])) (fun u hu=>hg u (by simp[hu])))
   obtain⟨x,r,rfl,_,h7,_⟩:=value_head (hv v (by simp))
   show(if x.op=7 then pastV g (r++l.flatten)else pastV g (x::(r++l.flatten)))=_
   rw[if_neg h7]
   exact h1
structure IsSet (l:List (List Nd)):Prop where
 strict:Strict l
 vals:∀v∈l,vfault v=0
 short:(setN l).length≤200
theorem empty_bytes {b:ByteArray}(h:b.data.toList.isEmpty=true):b=⟨#[]⟩:=by
 obtain⟨d⟩:=b
 have:d.toList=[]:=by simpa using h
 have:d= #[]:=by simpa using this
 rw[this]
theorem set_row {x:Nd}{r:List Nd}(h:vfault (x::r)=0)(h5:x.op=5):∃l,IsSet l∧x::r=setN l:=by
 obtain⟨_,_,e,hl,_,hok,hp⟩:=value_head h
 cases e
 rw[(isVal_past h).2,if_pos h5]at hp
 obtain⟨l,e,hk,hs,hv,_,_⟩:=setLoop_front (pastV_front _) (fun u r h s=>pastV_more _ h s) _ _ _ _ hp.symm
 rw[List.append_nil]at e
 subst e
 unfold ndOk at hok
 simp[h5]at hok
 have hx:x=⟨5,l.length,⟨#[]⟩,⟨#[]⟩⟩:=by
  obtain⟨a,n,s,t⟩:=x
  simp only at hok h5 hk
  have h1:=empty_bytes (b:=s) (by simpa using hok.1.1)
  have h2:=empty_bytes (b:=t) (by simpa using hok.1.2)
  have h3:n=l.length:=by omega
  rw[h5,h1,h2,h3]
 subst hx
 refine⟨l,⟨hs,fun v hm=>?_,hl⟩,rfl⟩
 have h1:=hv v hm
 have h2:=mem_flat hm
 have h3:=pastV_fuel (setN l).length (v.length+1) v (by show v.length<l.flatten.length+1;omega) (by omega)
 have h4:pastV (v.length+1) v=some []:=by rw[←h3];exact h1
 have h6:(setN l).length=l.flatten.length+1:=rfl
 have h7:(setN l).length≤200:=hl
 unfold vfault
 rw[if_neg (by omega),if_pos]
 unfold isVal
 rw[h4]
 rfl
theorem IsSet.value {l:List (List Nd)}(h:IsSet l):vfault (setN l)=0:=setN_value h.strict h.vals h.short
theorem IsSet.len {l:List (List Nd)}(h:IsSet l):l.length≤200:=by
 have h1:∀m:List (List Nd),(∀v∈m,v≠[])→m.length≤m.flatten.length:=by
  intro m
  induction m with
  | nil=>simp
  | cons a m ih=>
    intro hm
    have h1:=ih (fun v hv=>hm v (by simp[hv]))
    have h2:0<a.length:=List.length_pos_iff.2 (hm a (by simp))
    simp only[List.length_cons,List.flatten_cons,List.length_append]
    omega
 have h2:=h1 l (fun v hm=>by obtain⟨x,r,e,_⟩:=value_head (h.vals v hm);rw[e];simp)
 have h3:(setN l).length=l.flatten.length+1:=rfl
 have:=h.short
 omega
def inB (l:List (List Nd))(v:List Nd):Bool:=l.any fun p=>decide (lsC p v=0)
theorem inB_iff (l:List (List Nd))(v:List Nd):inB l v=true↔v∈l:=by
 unfold inB
 rw[List.any_eq_true]
 constructor
 · rintro⟨p,hp,e⟩
   rw[decide_eq_true_iff,lsC_is.zero]at e
   subst e;exact hp
 · intro h
   exact⟨v,h,by rw[decide_eq_true_iff,lsC_is.zero]⟩
theorem inB_not (l:List (List Nd))(v:List Nd):inB l v=false↔v∉l:=by
 rw[←inB_iff];simp
def allB (ls lt:List (List Nd)):Bool:=lt.all (inB ls)
def anyB (ls lt:List (List Nd)):Bool:=lt.any (inB ls)
theorem allB_iff (ls lt:List (List Nd)):allB ls lt=true↔∀v∈lt,v∈ls:=by
 unfold allB;rw[List.all_eq_true];simp only[inB_iff]
theorem anyB_iff (ls lt:List (List Nd)):anyB ls lt=true↔∃v∈lt,v∈ls:=by
 unfold anyB;rw[List.any_eq_true];simp only[inB_iff]
def meetL (ls lt:List (List Nd)):List (List Nd):=ls.filter (inB lt)
def lessL (ls lt:List (List Nd)):List (List Nd):=ls.filter fun v=> !inB lt v
def bothL (ls lt:List (List Nd)):List (List Nd):=setL (ls++lt)
theorem mem_meet (ls lt:List (List Nd))(v:List Nd):v∈meetL ls lt↔v∈ls∧v∈lt:=by
 unfold meetL;rw[List.mem_filter,inB_iff]
theorem mem_less (ls lt:List (List Nd))(v:List Nd):v∈lessL ls lt↔v∈ls∧v∉lt:=by
 unfold lessL;rw[List.mem_filter,Bool.not_eq_true',inB_not]
theorem mem_both (ls lt:List (List Nd))(v:List Nd):v∈bothL ls lt↔v∈ls∨v∈lt:=by
 unfold bothL;rw[mem_setL,List.mem_append]
theorem strict_of_sub {l m:List (List Nd)}(h:Strict m)(hs:l.Sublist m):Strict l:=List.Pairwise.sublist hs h
theorem isSet_of_sub {l m:List (List Nd)}(h:IsSet m)(hs:l.Sublist m):IsSet l:=by
 refine⟨strict_of_sub h.strict hs,fun v hv=>h.vals v (hs.subset hv),?_⟩
 have h1:=flat_le hs
 have h2:=h.short
 have h3:(setN l).length=l.flatten.length+1:=rfl
 have h4:(setN m).length=m.flatten.length+1:=rfl
 omega
theorem isSet_meet {ls:List (List Nd)}(h:IsSet ls)(lt:List (List Nd)):IsSet (meetL ls lt):=isSet_of_sub h List.filter_sublist
theorem isSet_less {ls:List (List Nd)}(h:IsSet ls)(lt:List (List Nd)):IsSet (lessL ls lt):=isSet_of_sub h List.filter_sublist
theorem isSet_both {ls lt:List (List Nd)}(h:IsSet ls)(k:IsSet lt)(hl:(setN (bothL ls lt)).length≤200):IsSet (bothL ls lt):=
 ⟨strict_setL _,fun v hv=>((mem_both ls lt v).1 hv).elim (h.vals v) (k.vals v),hl⟩
theorem IsSet.row {l:List (List Nd)}(h:IsSet l):setL l=l:=(setL_is h.strict (fun x=>Iff.rfl)).symm
theorem IsSet.ext {l m:List (List Nd)}(h:IsSet l)(k:IsSet m)(he:∀v,v∈l↔v∈m):l=m:=Strict.ext h.strict k.strict he
def isSetV (v:List Nd):Bool:=match v with | []=>false | x::_=>decide (x.op=5)
def sfault (s t:List Nd):Int:=if vfault s=0 then(if vfault t=0 then(if isSetV s=true∧isSetV t=true then 0 else 2)else vfault t)else vfault s
theorem sfault_zero {s t:List Nd}(h:sfault s t=0):∃ls lt,IsSet ls∧IsSet lt∧s=setN ls∧t=setN lt:=by
 unfold sfault at h
 split at h
 · rename_i h1
   split at h
   · rename_i h2
     split at h
     · rename_i h3
       have hone:∀v,vfault v=0→isSetV v=true→∃l,IsSet l∧v=setN l:=fun v hv hs=>by
        cases v with
        | nil=>cases hs
        | cons x r=>exact set_row hv (by simpa[isSetV]using hs)
       obtain⟨ls,k1,k2⟩:=hone s h1 h3.1
       obtain⟨lt,k3,k4⟩:=hone t h2 h3.2
       exact⟨ls,lt,k1,k3,k2,k4⟩
     · cases h
   · rename_i h2;exact absurd h h2
 · rename_i h1;exact absurd h h1
theorem sfault_sets {ls lt:List (List Nd)}(h:IsSet ls)(k:IsSet lt):sfault (setN ls) (setN lt)=0:=by
 unfold sfault
 rw[if_pos h.value,if_pos k.value,if_pos]
 exact⟨rfl,rfl⟩
theorem setN_inj {l m:List (List Nd)}(h:IsSet l)(k:IsSet m)(e:setN l=setN m):l=m:=by
 have h1:∀(l m:List (List Nd)),(∀v∈l,vfault v=0)→(∀v∈m,vfault v=0)→l.length=m.length→l.flatten=m.flatten→l=m:=by
  intro l
  induction l with
  | nil=>intro m _ _ hl _;exact(List.eq_nil_of_length_eq_zero hl.symm).symm
  | cons a l ih=>
    intro m ha hb hl he
    cases m with
    | nil=>cases hl
    | cons b m=>
      simp only[List.flatten_cons]at he
      have k1:=value_behind (ha a (by simp)) l.flatten (g:=a.length+b.length+1) (by omega)
      have k2:=value_behind (hb b (by simp)) m.flatten (g:=a.length+b.length+1) (by omega)
      rw[he,k2]at k1
      have k3:m.flatten=l.flatten:=by injection k1
      rw[k3]at he
      have k4:=List.append_cancel_right he
      rw[k4,ih m (fun v hv=>ha v (by simp[hv])) (fun v hv=>hb v (by simp[hv])) (by simpa using hl) k3.symm]
 unfold setN at e
 injection e with e1 e2
 injection e1 with _ e3
 exact h1 l m h.vals k.vals (by omega) e2
end Go.Proofs.YtlnhaajjoplafaaGreatDoor
namespace Go.Proofs.YtlnhaajjoplafaaGreatDoor
open Go.RowKit
def findS (fld:ByteArray):List (List Nd)→Option (List Nd)
 | []=>none
 | []::ss=>findS fld ss
 | (x::t)::ss=>if x.s=fld then some t else findS fld ss
def getE:Option (List Nd)→Int
 | some _=>0
 | none=>3
def getL:Option (List Nd)→List Nd
 | some t=>t
 | none=>[]
theorem get_bad (v:List Nd)(p:Option Addr)(c:Nat)(fld:ByteArray)(w:World)(hv:NL w p v)(hc:v.length≤c)(hcm:c≤maxLen)(h:vfault v≠0):
 Calls Tryz.prog 94 #[.slice p v.length c,.string fld] w fun e w'=>e= .returned (.tuple #[.slice none 0 0,eV (vfault v)])∧Below w.heap.size w w':=by
 have H1:=vcheck_any v p c w hv hc hcm
 rw[eV_not h]at H1 ⊢
 go_enter Tryz.func94,Tryz.ntmps94
 go_wp2_with fail
 refine H1.mono ?_
 rintro e w1 ⟨rfl,hb1⟩
 go_wp2
 go_ret2
 exact⟨rfl,hb1⟩
theorem get_type (x:Nd)(r:List Nd)(b off c:Nat)(fld:ByteArray)(w:World)(hv:NL w (some ⟨b,off,none⟩) (x::r))(hc:(x::r).length≤c)(hcm:c≤maxLen)(h:vfault (x::r)=0)(h6:x.op≠6):
 Calls Tryz.prog 94 #[.slice (some ⟨b,off,none⟩) (x::r).length c,.string fld] w fun e w'=>e= .returned (.tuple #[.slice none 0 0,eV 2])∧Below w.heap.size w w':=by
 have H1:=vcheck_any (x::r) _ c w hv hc hcm
 rw[eV_nil h]at H1
 obtain⟨b',o',hpe,hbw,x0,_⟩:=hv.head
 obtain⟨rfl,rfl⟩:b=b'∧off=o':=by simpa using hpe
 have e6:(x.op != 6)=true:=by simpa using h6
 unfold maxLen at hcm
 have i0:(0:Int)<((x::r).length:Int):=by simp
 clear h hpe
 simp only[List.length_cons]at *
 go_enter Tryz.func94,Tryz.ntmps94
 go_wp2_with fail
 refine H1.mono ?_
 rintro e w1 ⟨rfl,hb1⟩
 have z0:=(hb1.cell (p:=⟨b,off,none⟩) hbw).trans x0
 clear x0
 go_wp2
 go_ret2
 exact⟨rfl,hb1⟩
theorem findS_step (fld:ByteArray)(ss:List (List Nd))(k:Nat)(y:Nd)(t:List Nd)(h:ss[k]? =some (y::t)):findS fld (ss.drop k)=if y.s=fld then some t else findS fld (ss.drop (k+1)):=by
 obtain⟨hk,he⟩:=List.getElem?_eq_some_iff.1 h
 rw[List.drop_eq_getElem_cons hk,he]
 rfl
set_option maxRecDepth 100000 in
theorem get_ok (f:Nat)(x:Nd)(r:List Nd)(ss:List (List Nd))(hss:Segs f r ss)(b off c:Nat)(fld:ByteArray)(w:World)(hv:NL w (some ⟨b,off,none⟩) (x::r))(hc:(x::r).length≤c)(hcm:c≤maxLen)(h:vfault (x::r)=0)(h6:x.op=6):
 Calls Tryz.prog 94 #[.slice (some ⟨b,off,none⟩) (x::r).length c,.string fld] w fun e w'=>(∃q c',e= .returned (.tuple #[.slice q (getL (findS fld ss)).length c',eV (getE (findS fld ss))])∧NL w' q (getL (findS fld ss))∧(getL (findS fld ss)).length≤c'∧c'≤maxLen)∧Below w.heap.size w w':=by
 have H1:=vcheck_any (x::r) _ c w hv hc hcm
 rw[eV_nil h]at H1
 obtain⟨hl200,_⟩:=isVal_past h
 obtain⟨b',o',hpe,hbw,x0,_⟩:=hv.head
 obtain⟨rfl,rfl⟩:b=b'∧off=o':=by simpa using hpe
 have hsl:=hss.length
 have hne:=hss.ne
 have hsh:=hss.short
 have hit:=fun w' (hb:Below w.heap.size w w')=>items_fn f x r ss hss b off c w' (hv.up hb) (Nat.lt_of_lt_of_le hbw hb.size) hl200 hc hcm
 have HM:Hid (c≤maxLen):=hcm
 unfold maxLen at hcm
 have i0:(0:Int)<((x::r).length:Int):=by simp
 have HNE:Hid (∀s∈ss,s≠[]):=hne
 have HSH:Hid (∀s∈ss,s.length≤r.length):=hsh
 have e6:(x.op != 6)=false:=by simpa using h6
 clear h hpe hss hne hsh h6
 simp only[List.length_cons]at *
 generalize hR:findS fld ss=R
 have HR:Hid (_=_):=hR
 clear hR
 go_enter Tryz.func94,Tryz.ntmps94
 go_wp2_with fail
 refine H1.mono ?_
 rintro e w1 ⟨rfl,hb1⟩
 have z0:=(hb1.cell (p:=⟨b,off,none⟩) hbw).trans x0
 have hit1:=hit w1 hb1
 clear x0 hit H1
 go_wp2_with fail
 refine hit1.mono ?_
 rintro e w2 ⟨⟨lv,rfl,hol⟩,hb2'⟩
 have hb2:=hb1.trans (hb2'.mono hb1.size)
 obtain⟨lq,lc,rfl,hll,hlc,hlm⟩:=hol.lists
 clear hit1 hol hb2'
 go_wp2
 go_loopw [23] (fun i wr=>∃(k:Nat),k≤ss.length∧i= .int .i64 k∧Hid (findS fld (ss.drop k)=R)∧wr=w2) (fun i _=>ss.length-(intOf i).toNat)
 case atStart=>exact⟨0,Nat.zero_le _,rfl,HR,rfl⟩
 case round=>
  obtain⟨k,hk,rfl,HF,rfl⟩:=hrel
  by_cases hlt:k<ss.length
  · obtain⟨gb,go,q,c',rfl,hgb,hcell,hnl,h1,h2⟩:=hll.at hlt
    have hmem:ss[k]∈ss:=List.getElem_mem _
    have hsn:=HNE.out _ hmem
    have hss2:=HSH.out _ hmem
    have i1:(k:Int)<(ss.length:Int):=by omega
    have hat:ss[k]? =some ss[k]:=List.getElem?_eq_getElem hlt
    have HA:Hid (_=_):=hat
    generalize ss[k]=s at *
    cases s with
    | nil=>exact absurd rfl hsn
    | cons y t=>
      have HS:Hid (_=_):=findS_step fld ss k y t HA.out
      obtain⟨yb,yo,rfl,hyb,y0,y1,y2,y3,yw⟩:=hnl.head
      have j0:(0:Int)<(t.length:Int)+1:=by omega
      have j1:(1:Int)≤(t.length:Int)+1:=by omega
      clear hmem hsn hat HA
      have h2':c'≤9223372036854775807:=h2
      simp only[List.length_cons]at *
      by_cases he:y.s=fld
      · have hq:(y.s.toList == fld.toList)=true:=by rw[he];simp
        have HE:Hid (R=some t):=by show _=_;rw[←HF.out,HS.out,if_pos he]
        obtain⟨pr,hpr,hnr⟩:∃pr,(if c'=1 then some (⟨yb,yo,none⟩:Addr)else some ⟨yb,yo+4,none⟩)=some ⟨yb,pr,none⟩∧NL wr (some ⟨yb,pr,none⟩) t:=by
         by_cases h:c'=1
         · exact⟨yo,if_pos h,.inl (List.eq_nil_of_length_eq_zero (by omega))⟩
         · exact⟨yo+4,if_neg h,hnl.tail⟩
        have hclone:=cloneNodes_fn t yb pr (c'-1) wr hnr (by omega)
        clear he HS HF HR
        go_wp2_with fail
        refine hclone.mono ?_
        rintro e w3 ⟨⟨q3,c3,rfl,hnt,hl3,hm3⟩,hb3⟩
        clear hclone
        go_wp2
        go_ret2
        rw[HE.out]
        exact⟨⟨q3,c3,rfl,hnt.1,hl3,hm3⟩,hb2.trans (hb3.mono hb2.size)⟩
      · have hq:(y.s.toList == fld.toList)=false:=by
         simp only[beq_eq_false_iff_ne,ne_eq,ByteArray.toList_eq]
         exact fun h=>he (bytes_inj h)
        have HG:Hid (findS fld (ss.drop (k+1))=R):=by show _=_;rw[←HF.out,HS.out,if_neg he]
        clear he HS HF HR
        go_wp2
        go_roundw
        case rel=>exact⟨k+1,by omega,by go_num,HG,by trivial⟩
        case measure=>simp[intOf];omega
  · have HE:Hid (R=none):=by
     show _=_
     rw[←HF.out,List.drop_of_length_le (by omega)];rfl
    have i1:¬(k:Int)<(ss.length:Int):=by omega
    clear HF HR
    go_wp2
    go_ret2
    rw[HE.out]
    exact⟨⟨none,0,rfl,.inl rfl,Nat.le_refl _,Nat.zero_le _⟩,hb2⟩
end Go.Proofs.YtlnhaajjoplafaaGreatDoor
namespace Go.Proofs.YtlnhaajjoplafaaGreatDoor
theorem field_ok {s:ByteArray}(h:nfault s.data.toList=0):ndOk ⟨7,0,s,⟨#[]⟩⟩=true:=by simp[ndOk,h]
theorem strictR_loop (g:Nat):∀(l:List Fd) (last:ByteArray),RStrict l→(∀p∈l,nfault p.1.data.toList=0∧vfault p.2=0)→(∀p∈l,p.2.length+1≤g)→(∀p∈l,cmpB last p.1<0)→recLoop (pastV g) l.length last (l.map itemOf).flatten=some []
 | [],_,_,_,_,_=>rfl
 | p::l,last,hs,hv,hg,ha=>by
   have hs':=List.pairwise_cons.1 hs
   simp only[List.length_cons,List.map_cons,List.flatten_cons,itemOf,List.cons_append,recLoop]
   rw[if_pos ⟨trivial,field_ok (hv p (by simp)).1,ha p (by simp)⟩,value_behind (hv p (by simp)).2 _ (hg p (by simp))]
   exact strictR_loop g l p.1 hs'.2 (fun q hq=>hv q (by simp[hq])) (fun q hq=>hg q (by simp[hq])) (fun q hq=>hs'.1 q hq)
theorem mem_fsize {l:List Fd}{p:Fd}(h:p∈l):p.2.length+1≤fsize l:=by
 induction l with
 | nil=>cases h
 | cons a l ih=>
   simp only[fsize]
   rcases List.mem_cons.1 h with rfl | h
   · omega
   · have:=ih h;omega
theorem recN_value {l:List Fd}(hs:RStrict l)(hv:∀p∈l,nfault p.1.data.toList=0∧vfault p.2=0)(hl:(recN l).length≤200):vfault (recN l)=0:=by
 have h1:pastV ((recN l).length+1) (recN l)=some []:=by
  have h2:=strictR_loop (recN l).length l ⟨#[]⟩ hs hv (fun p hm=>by have:=mem_fsize hm;rw[recN_length];omega) (fun p hp=>name_ahead (x:=⟨7,0,p.1,⟨#[]⟩⟩) rfl (field_ok (hv p hp).1))
  unfold recN at h2 ⊢
  simp only[pastV]
  rw[if_pos ⟨by decide,by simp[ndOk]⟩,if_neg (by decide),if_pos trivial]
  simpa using h2
 unfold vfault
 rw[if_neg (by omega),if_pos]
 unfold isVal
 rw[h1]
 rfl
theorem items_segs (g:Nat):∀(l:List Fd),(∀p∈l,vfault p.2=0)→(∀p∈l,p.2.length+1≤g)→Segs g (l.map itemOf).flatten (l.map itemOf)
 | [],_,_=>.nil
 | p::l,hv,hg=>by
   refine .cons (a:=itemOf p) ?_ (items_segs g l (fun u hu=>hv u (by simp[hu])) (fun u hu=>hg u (by simp[hu])))
   simp only[itemOf,List.cons_append,itemP]
   rw[if_pos trivial]
   exact value_behind (hv p (by simp)) _ (hg p (by simp))
theorem findS_item {l:List Fd}(hs:RStrict l){p:Fd}(hp:p∈l):findS p.1 (l.map itemOf)=some p.2:=by
 induction l with
 | nil=>cases hp
 | cons a l ih=>
   have hs':=List.pairwise_cons.1 hs
   show(if a.1=p.1 then some a.2 else findS p.1 (l.map itemOf))=some p.2
   rcases List.mem_cons.1 hp with rfl | hp
   · rw[if_pos rfl]
   · have:=hs'.1 p hp
     rw[if_neg (fun e=>by rw[e,cmpB_self]at this;omega)]
     exact ih hs'.2 hp
def opV (v:List Nd):Int:=match v with | []=>0 | x::_=>x.op
def nV (v:List Nd):Int:=match v with | []=>0 | x::_=>x.n
def sV (v:List Nd):ByteArray:=match v with | []=>⟨#[]⟩ | x::_=>x.s
def uidV (v:List Nd):Ui:=match v with | []=>⟨⟨#[]⟩,⟨#[]⟩⟩ | x::_=>⟨x.s,x.t⟩
def tN (b:Bool):List Nd:=[⟨1,if b then 1 else 0,⟨#[]⟩,⟨#[]⟩⟩]
def mN (n:Int):List Nd:=[⟨2,n,⟨#[]⟩,⟨#[]⟩⟩]
def uN (u:Ui):List Nd:=[⟨4,0,u.t,u.i⟩]
def bh (f:Nat)(v:List Nd):List Nd:=(pastE f v).getD []
theorem bh_of {f:Nat}{v r:List Nd}(h:pastE f v=some r):bh f v=r:=by unfold bh;rw[h];rfl
noncomputable def setR (v:List Nd):List (List Nd):=open Classical in if h:∃l,IsSet l∧v=setN l then Classical.choose h else[]
theorem setR_of {l:List (List Nd)}(h:IsSet l):setR (setN l)=l:=by
 have h1:∃m,IsSet m∧setN l=setN m:=⟨l,h,rfl⟩
 unfold setR
 rw[dif_pos h1]
 have h2:=Classical.choose_spec h1
 exact(setN_inj h h2.1 h2.2).symm
theorem setR_spec {v:List Nd}(h:vfault v=0)(h5:opV v=5):IsSet (setR v)∧v=setN (setR v):=by
 obtain⟨x,r,rfl,_⟩:=value_head h
 obtain⟨l,hl,e⟩:=set_row h h5
 rw[e,setR_of hl]
 exact⟨hl,rfl⟩
noncomputable def fldV (v:List Nd) (s:ByteArray):Option (List Nd):=
 match v with
 | []=>none
 | x::r=>open Classical in if h:∃ss,Segs (x::r).length r ss then findS s (Classical.choose h)else none
theorem fldV_spec {x:Nd}{r:List Nd}(h:vfault (x::r)=0)(h6:x.op=6)(s:ByteArray):∃ss,Segs (x::r).length r ss∧fldV (x::r) s=findS s ss:=by
 obtain⟨ss,h1,_⟩:=rec_items h h6
 have h2:∃ss,Segs (x::r).length r ss:=⟨ss,h1⟩
 refine⟨Classical.choose h2,Classical.choose_spec h2,?_⟩
 unfold fldV
 simp only
 rw[dif_pos h2]
def evS (ev:List Nd→Except Int (List Nd))(nx:List Nd→List Nd):Nat→List Nd→Except Int (List (List Nd))
 | 0,_=>.ok []
 | k+1,v=>
   match ev v with
   | .error n=>.error n
   | .ok a=>
     match evS ev nx k (nx v)with
     | .error n=>.error n
     | .ok l=>.ok (a::l)
def evR (ev:List Nd→Except Int (List Nd))(nx:List Nd→List Nd):Nat→List Nd→Except Int (List Fd)
 | 0,_=>.ok []
 | _+1,[]=>.error 0
 | k+1,x::v=>
   match ev v with
   | .error n=>.error n
   | .ok a=>
     match evR ev nx k (nx v)with
     | .error n=>.error n
     | .ok l=>.ok ((x.s,a)::l)
def setE (ps:List (List Nd)):Except Int (List Nd):=if (setN (setL ps)).length≤200 then .ok (setN (setL ps))else .error 4
def recE (ps:List Fd):Except Int (List Nd):=if rfault [] ps=0 then(if (recN (recS ps)).length≤200 then .ok (recN (recS ps))else .error 4)else .error (rfault [] ps)
def wPrin:ByteArray:=⟨#[112,114,105,110,99,105,112,97,108]⟩
def wAct:ByteArray:=⟨#[97,99,116,105,111,110]⟩
def wRes:ByteArray:=⟨#[114,101,115,111,117,114,99,101]⟩
def wCtx:ByteArray:=⟨#[99,111,110,116,101,120,116]⟩
def varE (q:Rq)(s:ByteArray):Except Int (List Nd):=
 if s=wPrin then .ok (uN q.who)else if s=wAct then .ok (uN q.act)else if s=wRes then .ok (uN q.what)else if s=wCtx then .ok q.cx else .error 3
def attE (es:List En)(v:List Nd):Except Int (List Nd):=
 if opV v=6 then .ok v else if opV v=4 then(match es.find? (fun e=>decide (e.u=uidV v))with | some e=>.ok e.nd | none=>.error 8)else .error 2
noncomputable def hasE (es:List En) (v:List Nd) (s:ByteArray):Except Int (List Nd):=
 match attE es v with
 | .ok r=>.ok (tN (fldV r s).isSome)
 | .error n=>if n=8 then .ok (tN false)else .error n
noncomputable def getV (es:List En) (v:List Nd) (s:ByteArray):Except Int (List Nd):=
 match attE es v with
 | .ok r=>(match fldV r s with | some u=>.ok u | none=>.error 3)
 | .error n=>.error n
noncomputable def oneE (es:List En) (x:Nd) (v:List Nd):Except Int (List Nd):=
 if x.op=9 then(if opV v=1 then .ok (tN (!(nV v == 1)))else .error 2)
 else if x.op=10 then(if opV v=2 then(if Fit (-nV v)then .ok (mN (-nV v))else .error 5)else .error 2)
 else if x.op=21 then hasE es v x.s
 else if x.op=22 then getV es v x.s
 else if x.op=23 then(if opV v=3 then .ok (tN (pM (pcs x.s.data.toList) (sV v).data.toList))else .error 2)
 else(if opV v=4 then .ok (tN (decide (sV v=x.s)))else .error 2)
noncomputable def uidsE (v:List Nd):Option (List Ui):=
 if opV v=5 then(if ∀u∈setR v,opV u=4 then some ((setR v).map uidV)else none)else if opV v=4 then some [uidV v]else none
open Classical in
noncomputable def inE (es:List En) (a b:List Nd):Except Int (List Nd):=
 if opV a=4 then(match uidsE b with | some us=>.ok (tN (decide (∃t∈us,t=uidV a∨Abv es (uidV a) t))) | none=>.error 2)else .error 2
noncomputable def twoE (es:List En) (op:Int) (a b:List Nd):Except Int (List Nd):=
 if op=14 then .ok (tN (decide (lsC a b=0)))
 else if op=15 then(if opV a=2∧opV b=2 then .ok (tN (decide (nV a<nV b)))else .error 2)
 else if op=16 then(if opV a=2∧opV b=2 then .ok (tN (decide (nV a≤nV b)))else .error 2)
 else if op=20 then inE es a b
 else if op=25 then(if opV a=5 then .ok (tN (inB (setR a) b))else .error 2)
 else if op=26 then(if opV a=5∧opV b=5 then .ok (tN (allB (setR a) (setR b)))else .error 2)
 else if op=27 then(if opV a=5∧opV b=5 then .ok (tN (anyB (setR a) (setR b)))else .error 2)
 else(if opV a=2∧opV b=2 then(if nmf op (nV a) (nV b)=0 then .ok (mN (nx op (nV a) (nV b)))else .error (nmf op (nV a) (nV b)))else .error 2)
def boolE (a:Except Int (List Nd)):Except Int Bool:=
 match a with
 | .error n=>.error n
 | .ok v=>if opV v=1 then .ok (nV v == 1)else .error 2
def lazyE (enough:Bool)(a b:Except Int (List Nd)):Except Int (List Nd):=
 match boolE a with
 | .error n=>.error n
 | .ok t=>if t=enough then .ok (tN enough)else
   match boolE b with
   | .error n=>.error n
   | .ok u=>.ok (tN u)
def ifE (a b c:Except Int (List Nd)):Except Int (List Nd):=
 match boolE a with
 | .error n=>.error n
 | .ok t=>if t=true then b else c
def bindE {α β :Type}(a:Except Int α)(f: α →Except Int β):Except Int β :=
 match a with
 | .error n=>.error n
 | .ok v=>f v
noncomputable def evE (es:List En) (q:Rq):Nat→List Nd→Except Int (List Nd)
 | 0,_=>.error 0
 | _+1,[]=>.error 0
 | f+1,x::m=>
   if 1≤x.op∧x.op≤4 then .ok [x]
   else if x.op=5 then bindE (evS (evE es q f) (bh f) x.n.toNat m) setE
   else if x.op=6 then bindE (evR (evE es q f) (bh f) x.n.toNat m) recE
   else if x.op=8 then varE q x.s
   else if x.op=11 then lazyE false (evE es q f m) (evE es q f (bh f m))
   else if x.op=12 then lazyE true (evE es q f m) (evE es q f (bh f m))
   else if x.op=13 then ifE (evE es q f m) (evE es q f (bh f m)) (evE es q f (bh f (bh f m)))
   else if x.op=9∨x.op=10∨21≤x.op∧x.op≤24 then bindE (evE es q f m) (oneE es x)
   else bindE (evE es q f m) fun a=>bindE (evE es q f (bh f m)) fun b=>twoE es x.op a b
noncomputable def valueL (es:List En) (q:Rq) (e:List Nd):Except Int (List Nd):=
 if stf es=0 then(if askf q=0 then(if xfault e=0 then evE es q (e.length+1) e else .error (xfault e))else .error (askf q))else .error (stf es)
def N64 (v:List Nd):Prop:=∀x∈v,x.op=2→Fit x.n
structure IsV (v:List Nd):Prop where
 val:vfault v=0
 num:N64 v
theorem N64.tail {x:Nd}{v:List Nd}(h:N64 (x::v)):N64 v:=fun y hy=>h y (List.mem_cons_of_mem _ hy)
theorem N64.drop {v:List Nd}(h:N64 v)(k:Nat):N64 (v.drop k):=fun y hy=>h y (List.mem_of_mem_drop hy)
theorem IsV.ne {v:List Nd}(h:IsV v):v≠[]:=by obtain⟨x,r,e,_⟩:=value_head h.val;rw[e];simp
theorem IsV.len {v:List Nd}(h:IsV v):v.length≤200:=(isVal_past h.val).1
theorem one_val {x:Nd}(h7:x.op≠7)(h5:x.op≠5)(h6:x.op≠6)(h:ndOk x=true):vfault [x]=0:=by
 unfold vfault isVal
 simp[pastV,h7,h5,h6,h]
theorem tN_is (b:Bool):IsV (tN b):=⟨by cases b<;>exact one_val (by decide) (by decide) (by decide) rfl,fun x hx h=>by simp only[tN,List.mem_singleton]at hx;subst hx;exact absurd h (by decide:¬(1:Int)=2)⟩
theorem mN_is {n:Int}(h:Fit n):IsV (mN n):=⟨one_val (by show(2:Int)≠7;decide) (by show(2:Int)≠5;decide) (by show(2:Int)≠6;decide) rfl,fun x hx _=>by simp only[mN,List.mem_singleton]at hx;subst hx;exact h⟩
theorem uN_is {u:Ui}(h:uf u=0):IsV (uN u):=by
 refine⟨one_val (by show(4:Int)≠7;decide) (by show(4:Int)≠5;decide) (by show(4:Int)≠6;decide) ?_,fun x hx h=>by simp only[uN,List.mem_singleton]at hx;subst hx;exact absurd h (by decide:¬(4:Int)=2)⟩
 obtain⟨h1,h2⟩:=ufault_both h
 simp[ndOk,h1,h2]
theorem atom_is {x:Nd}(h:exOk x=true)(h4:1≤x.op∧x.op≤4)(hn:x.op=2→Fit x.n):IsV [x]:=by
 refine⟨one_val (by omega) (by omega) (by omega) ?_,fun y hy=>by simp only[List.mem_singleton]at hy;subst hy;exact hn⟩
 unfold exOk at h
 rwa [if_pos (by omega)]at h
theorem flat_N64 {l:List (List Nd)}(h:∀v∈l,N64 v):N64 l.flatten:=by
 intro x hx
 obtain⟨v,hv,hx⟩:=List.mem_flatten.1 hx
 exact h v hv x hx
theorem setE_is {ps:List (List Nd)}{a:List Nd}(h:∀v∈ps,IsV v)(e:setE ps= .ok a):IsV a∧IsSet (setL ps)∧a=setN (setL ps):=by
 unfold setE at e
 split at e
 · rename_i hl
   injection e with e
   subst e
   have hs:IsSet (setL ps):=⟨strict_setL ps,fun v hv=>(h v ((mem_setL ps v).1 hv)).val,hl⟩
   refine⟨⟨hs.value,?_⟩,hs,rfl⟩
   intro x hx
   rcases List.mem_cons.1 hx with rfl | hx
   · intro h;exact absurd h (by decide:¬(5:Int)=2)
   · exact flat_N64 (fun v hv=>(h v ((mem_setL ps v).1 hv)).num) x hx
 · cases e
theorem recE_is {ps:List Fd}{a:List Nd}(h:∀p∈ps,IsV p.2)(e:recE ps= .ok a):IsV a∧a=recN (recS ps):=by
 unfold recE at e
 split at e
 · rename_i hf
   split at e
   · rename_i hl
     injection e with e
     subst e
     obtain⟨h1,_,h3⟩:=(rfault_zero [] ps).1 hf
     refine⟨⟨recN_value (strict_recS ps h3) (fun p hp=>h1 p ((perm_recS ps).mem_iff.1 hp)) hl,?_⟩,rfl⟩
     intro x hx
     rcases List.mem_cons.1 hx with rfl | hx
     · intro h;exact absurd h (by decide:¬(6:Int)=2)
     · obtain⟨v,hv,hx⟩:=List.mem_flatten.1 hx
       obtain⟨p,hp,rfl⟩:=List.mem_map.1 hv
       rcases List.mem_cons.1 hx with rfl | hx
       · intro h;exact absurd h (by decide:¬(7:Int)=2)
       · exact(h p ((perm_recS ps).mem_iff.1 hp)).num x hx
   · cases e
 · cases e
theorem Segs.flat {f:Nat}{u:List Nd}{ss:List (List Nd)}(h:Segs f u ss):u=ss.flatten:=by
 induction h with
 | nil=>rfl
 | cons _ _ ih=>rw[List.flatten_cons,←ih]
theorem Segs.unique {f:Nat}{u:List Nd}{ss:List (List Nd)}(h:Segs f u ss):∀ {tt:List (List Nd)},Segs f u tt→ss=tt:=by
 induction h with
 | nil=>
   intro tt ht
   generalize hu:([]:List Nd)=u at ht
   cases ht with
   | nil=>rfl
   | cons h1 _=>
     obtain⟨a',e,_,hne⟩:=itemP_off h1
     rw[←hu]at e
     have:=congrArg List.length e
     simp only[List.length_nil,List.length_append]at this
     exact absurd (List.eq_nil_of_length_eq_zero (by omega)) hne
 | @cons a r ss h1 h2 ih=>
   intro tt ht
   generalize hu:a++r=u at ht
   cases ht with
   | nil=>
     obtain⟨a',e,_,hne⟩:=itemP_off h1
     rw[hu]at e
     have:=congrArg List.length e
     simp only[List.length_nil,List.length_append]at this
     exact absurd (List.eq_nil_of_length_eq_zero (by omega)) hne
   | @cons b s tt h3 h4=>
     rw[←hu,h1]at h3
     have e:r=s:=Option.some.inj h3
     subst e
     have e2:=List.append_cancel_right hu
     rw[ih h4,e2]
theorem rising_item:∀ {l:ByteArray} {ss:List (List Nd)},Rising l ss→∀s∈ss,∃x r,s=x::r∧x.op=7
 | _,_,.nil _,s,h=>by cases h
 | _,_,.cons h7 _ hs,s,h=>by
   rcases List.mem_cons.1 h with rfl | h
   · exact⟨_,_,rfl,h7⟩
   · exact rising_item hs s h
theorem segs_item {f:Nat}{u:List Nd}{ss:List (List Nd)}(h:Segs f u ss):∀s∈ss,∃r,itemP f (s++r)=some r:=by
 induction h with
 | nil=>simp
 | @cons a r ss h1 _ ih=>
   intro s hs
   rcases List.mem_cons.1 hs with rfl | hs
   · exact⟨r,h1⟩
   · exact ih s hs
theorem findS_mem {s:ByteArray}{u:List Nd}:∀ {ss:List (List Nd)},findS s ss=some u→∃x,(x::u)∈ss
 | [],h=>by cases h
 | []::ss,h=>by obtain⟨x,hx⟩:=findS_mem (ss:=ss) h;exact⟨x,List.mem_cons_of_mem _ hx⟩
 | (y::t)::ss,h=>by
   simp only[findS]at h
   split at h
   · injection h with h;subst h;exact⟨y,List.mem_cons_self⟩
   · obtain⟨x,hx⟩:=findS_mem (ss:=ss) h;exact⟨x,List.mem_cons_of_mem _ hx⟩
theorem fldV_is {v u:List Nd}(h:IsV v)(h6:opV v=6){s:ByteArray}(hu:fldV v s=some u):IsV u:=by
 have hv:=h.val
 obtain⟨x,r,rfl,_⟩:=value_head hv
 obtain⟨ss,h1,e⟩:=fldV_spec hv h6 s
 obtain⟨tt,h2,_,h3⟩:=rec_items hv h6
 have e2:=h1.unique h2
 subst e2
 rw[e]at hu
 obtain⟨y,hy⟩:=findS_mem hu
 obtain⟨_,_,e3,h7⟩:=rising_item h3 _ hy
 cases e3
 obtain⟨rr,h4⟩:=segs_item h1 _ hy
 simp only[List.cons_append,itemP,h7,if_true]at h4
 obtain⟨a,e4,h5⟩:=pastV_front _ _ _ h4
 have e5:=List.append_cancel_right e4
 subst e5
 have hlen:=(h1.short _ hy)
 have hl:=h.len
 simp only[List.length_cons]at hlen hl h5
 refine⟨?_,fun z hz=>h.num z ?_⟩
 · have h8:=pastV_fuel (r.length+1) (u.length+1) u (by omega) (by omega)
   unfold vfault isVal
   rw[if_neg (by omega),←h8,h5]
   rfl
 · refine List.mem_cons_of_mem _ ?_
   rw[h1.flat]
   exact List.mem_flatten.2 ⟨_,hy,List.mem_cons_of_mem _ hz⟩
structure EnvOk (es:List En)(q:Rq):Prop where
 st:stf es=0
 ask:askf q=0
 esN:∀e∈es,N64 e.nd
 cxN:N64 q.cx
theorem stf_list {es:List En}(h:stf es=0):lfault [] es=0:=by
 unfold stf at h
 by_cases h1:16<es.length
 · rw[if_pos h1]at h;cases h
 · rw[if_neg h1]at h
   by_cases h2:lfault [] es=0
   · exact h2
   · rw[if_neg h2]at h;exact absurd h h2
theorem afault_zero {l:List Nd}(h:afault l=0):vfault l=0∧opV l=6:=by
 unfold afault at h
 split at h
 · rename_i hv
   refine⟨hv,?_⟩
   obtain⟨x,r,rfl,_⟩:=value_head hv
   simp only at h
   split at h
   · assumption
   · cases h
 · rename_i hv;exact absurd h hv
theorem EnvOk.ent {es:List En}{q:Rq}(h:EnvOk es q){e:En}(he:e∈es):IsV e.nd∧opV e.nd=6:=by
 obtain⟨h1,_⟩:=lfault_zero [] es (stf_list h.st)
 obtain⟨h2,h3⟩:=afault_zero (efault_zero (h1 e he).2.2).2
 exact⟨⟨h2,h.esN e he⟩,h3⟩
theorem askf_zero {q:Rq}(h:askf q=0):uf q.who=0∧uf q.act=0∧uf q.what=0∧afault q.cx=0:=by
 unfold askf at h
 split at h
 · rename_i h1
   split at h
   · rename_i h2
     split at h
     · rename_i h3
       exact⟨h1,h2,h3,h⟩
     · rename_i h3;exact absurd h h3
   · rename_i h2;exact absurd h h2
 · rename_i h1;exact absurd h h1
theorem EnvOk.ctx {es:List En}{q:Rq}(h:EnvOk es q):IsV q.cx∧opV q.cx=6:=by
 obtain⟨_,_,_,h4⟩:=askf_zero h.ask
 obtain⟨h2,h3⟩:=afault_zero h4
 exact⟨⟨h2,h.cxN⟩,h3⟩
theorem varE_is {es:List En}{q:Rq}(h:EnvOk es q){s:ByteArray}{a:List Nd}(e:varE q s= .ok a):IsV a:=by
 obtain⟨h1,h2,h3,_⟩:=askf_zero h.ask
 unfold varE at e
 split at e
 · injection e with e;subst e;exact uN_is h1
 · split at e
   · injection e with e;subst e;exact uN_is h2
   · split at e
     · injection e with e;subst e;exact uN_is h3
     · split at e
       · injection e with e;subst e;exact h.ctx.1
       · cases e
theorem attE_is {es:List En}{q:Rq}(h:EnvOk es q){v r:List Nd}(hv:IsV v)(e:attE es v= .ok r):IsV r∧opV r=6:=by
 unfold attE at e
 split at e
 · rename_i h6;injection e with e;subst e;exact⟨hv,h6⟩
 · split at e
   · split at e
     · rename_i x hx
       injection e with e;subst e
       exact h.ent (List.mem_of_find?_eq_some hx)
     · cases e
   · cases e
theorem oneE_is {es:List En}{q:Rq}(h:EnvOk es q){x:Nd}{v a:List Nd}(hv:IsV v)(e:oneE es x v= .ok a):IsV a:=by
 unfold oneE at e
 split at e
 · split at e
   · injection e with e;subst e;exact tN_is _
   · cases e
 split at e
 · split at e
   · split at e
     · rename_i hf;injection e with e;subst e;exact mN_is hf
     · cases e
   · cases e
 split at e
 · unfold hasE at e
   split at e
   · injection e with e;subst e;exact tN_is _
   · split at e
     · injection e with e;subst e;exact tN_is _
     · cases e
 split at e
 · unfold getV at e
   split at e
   · rename_i r hr
     split at e
     · rename_i u hu
       injection e with e;subst e
       obtain⟨h1,h2⟩:=attE_is h hv hr
       exact fldV_is h1 h2 hu
     · cases e
   · cases e
 split at e
 · split at e
   · injection e with e;subst e;exact tN_is _
   · cases e
 split at e
 · injection e with e;subst e;exact tN_is _
 · cases e
theorem nmf_fit {op a b:Int}(h:nmf op a b=0):Fit (nx op a b):=by
 unfold nmf at h
 split at h
 · split at h
   · assumption
   · cases h
 · cases h
theorem twoE_is {es:List En}{op:Int}{v u a:List Nd}(e:twoE es op v u= .ok a):IsV a:=by
 unfold twoE at e
 split at e
 · injection e with e;subst e;exact tN_is _
 split at e
 · split at e
   · injection e with e;subst e;exact tN_is _
   · cases e
 split at e
 · split at e
   · injection e with e;subst e;exact tN_is _
   · cases e
 split at e
 · unfold inE at e
   split at e
   · split at e
     · injection e with e;subst e;exact tN_is _
     · cases e
   · cases e
 split at e
 · split at e
   · injection e with e;subst e;exact tN_is _
   · cases e
 split at e
 · split at e
   · injection e with e;subst e;exact tN_is _
   · cases e
 split at e
 · split at e
   · injection e with e;subst e;exact tN_is _
   · cases e
 split at e
 · split at e
   · rename_i hf;injection e with e;subst e;exact mN_is (nmf_fit hf)
   · cases e
 · cases e
theorem lazyE_is {b:Bool}{x y:Except Int (List Nd)}{a:List Nd}(e:lazyE b x y= .ok a):IsV a:=by
 unfold lazyE at e
 split at e
 · cases e
 · split at e
   · injection e with e;subst e;exact tN_is _
   · split at e
     · cases e
     · injection e with e;subst e;exact tN_is _
theorem evS_is {ev:List Nd→Except Int (List Nd)}{f:Nat}(ih:∀v r a,pastE f v=some r→N64 v→ev v= .ok a→IsV a):
 ∀(k:Nat) (v r:List Nd) (l:List (List Nd)),partsE (pastE f) k v=some r→N64 v→evS ev (bh f) k v= .ok l→(∀a∈l,IsV a)∧l.length=k
 | 0,v,r,l,_,_,h=>by simp only[evS]at h;injection h with h;subst h;simp
 | k+1,v,r,l,hp,hn,h=>by
   simp only[partsE]at hp
   cases e1:pastE f v with
   | none=>rw[e1]at hp;cases hp
   | some s=>
     rw[e1]at hp
     simp only[evS]at h
     cases e2:ev v with
     | error n=>rw[e2]at h;cases h
     | ok a=>
       rw[e2,bh_of e1]at h
       simp only at h
       cases e3:evS ev (bh f) k s with
       | error n=>rw[e3]at h;cases h
       | ok m=>
         rw[e3]at h
         simp only at h
         injection h with h
         subst h
         obtain⟨t,ht⟩:=(pastE_shorter e1).2
         obtain⟨h1,h2⟩:=evS_is ih k s r m hp (fun x hx=>hn x (by rw[ht];exact List.mem_append_right _ hx)) e3
         refine⟨fun b hb=>?_,by simp[h2]⟩
         rcases List.mem_cons.1 hb with rfl | hb
         · exact ih v s _ e1 hn e2
         · exact h1 b hb
theorem evR_is {ev:List Nd→Except Int (List Nd)}{f:Nat}(ih:∀v r a,pastE f v=some r→N64 v→ev v= .ok a→IsV a):
 ∀(k:Nat) (last:ByteArray) (v r:List Nd) (l:List Fd),recLoop (pastE f) k last v=some r→N64 v→evR ev (bh f) k v= .ok l→(∀p∈l,IsV p.2)∧l.length=k
 | 0,_,v,r,l,_,_,h=>by simp only[evR]at h;injection h with h;subst h;simp
 | k+1,_,[],r,l,hp,hn,h=>by simp[recLoop]at hp
 | k+1,_,x::v,r,l,hp,hn,h=>by
   simp only[recLoop]at hp
   split at hp
   · cases e1:pastE f v with
     | none=>rw[e1]at hp;cases hp
     | some s=>
       rw[e1]at hp
       simp only[evR]at h
       cases e2:ev v with
       | error n=>rw[e2]at h;cases h
       | ok a=>
         rw[e2,bh_of e1]at h
         simp only at h
         cases e3:evR ev (bh f) k s with
         | error n=>rw[e3]at h;cases h
         | ok m=>
           rw[e3]at h
           simp only at h
           injection h with h
           subst h
           obtain⟨t,ht⟩:=(pastE_shorter e1).2
           obtain⟨h1,h2⟩:=evR_is ih k _ s r m hp (fun y hy=>hn y (by rw[ht];exact List.mem_cons_of_mem _ (List.mem_append_right _ hy))) e3
           refine⟨fun b hb=>?_,by simp[h2]⟩
           rcases List.mem_cons.1 hb with rfl | hb
           · exact ih v s _ e1 hn.tail e2
           · exact h1 b hb
   · cases hp
theorem exOk_n {es:List En}{x:Nd}(h:exOk x=true)(h5:x.op=5):(prt x).toNat=x.n.toNat:=by unfold prt;rw[if_pos (Or.inl h5)]
theorem ev_is {es:List En}{q:Rq}(h:EnvOk es q):∀(f:Nat) (v r a:List Nd),pastE f v=some r→N64 v→evE es q f v= .ok a→IsV a
 | 0,v,r,a,hp,_,_=>by simp[pastE]at hp
 | f+1,v,r,a,hp,hn,e=>by
   have ih:=ev_is h f
   obtain⟨g,x,m,e1,rfl,h7,hx,hr⟩:=pastE_cons hp
   obtain rfl:f=g:=by omega
   simp only[evE]at e
   have one:1≤(prt x).toNat→x.op≠6→∃s1,pastE f m=some s1∧partsE (pastE f) ((prt x).toNat-1) s1=some r:=by
    intro h1 h6
    rcases hr with⟨h6',_⟩ | ⟨_,hp⟩
    · exact absurd h6' h6
    · cases hk:(prt x).toNat with
      | zero=>omega
      | succ d=>
        rw[hk]at hp
        simp only[partsE]at hp
        cases e1:pastE f m with
        | none=>rw[e1]at hp;cases hp
        | some s=>rw[e1]at hp;exact⟨s,rfl,hp⟩
   have tailN:∀s,IsTail s m→N64 s:=fun s ⟨t,ht⟩ y hy=>hn y (List.mem_cons_of_mem _ (by rw[ht];exact List.mem_append_right _ hy))
   split at e
   · rename_i h4;injection e with e;subst e;exact atom_is hx h4 (hn x List.mem_cons_self)
   split at e
   · rename_i h5
     rcases hr with⟨h6',_⟩ | ⟨_,hp⟩
     · omega
     · cases e2:evS (evE es q f) (bh f) x.n.toNat m with
       | error n=>rw[e2]at e;cases e
       | ok l=>
         rw[e2]at e
         rw[exOk_n (es:=es) hx h5]at hp
         exact(setE_is (evS_is (f:=f) (fun v r a h1 h2 h3=>ih v r a h1 h2 h3) _ _ _ _ hp hn.tail e2).1 e).1
   split at e
   · rename_i h6
     rcases hr with⟨_,hp⟩ | ⟨h6',_⟩
     · cases e2:evR (evE es q f) (bh f) x.n.toNat m with
       | error n=>rw[e2]at e;cases e
       | ok l=>
         rw[e2]at e
         exact(recE_is (evR_is (f:=f) (fun v r a h1 h2 h3=>ih v r a h1 h2 h3) _ _ _ _ _ hp hn.tail e2).1 e).1
     · exact absurd h6 h6'
   split at e
   · exact varE_is h e
   split at e
   · exact lazyE_is e
   split at e
   · exact lazyE_is e
   split at e
   · rename_i h13
     have e3:(prt x).toNat=3:=by unfold prt;rw[h13];rfl
     obtain⟨s1,p1,hp1⟩:=one (by omega) (by omega)
     rw[e3]at hp1
     simp only[partsE]at hp1
     cases e4:pastE f s1 with
     | none=>rw[e4]at hp1;cases hp1
     | some s2=>
       rw[e4]at hp1
       simp only at hp1
       cases e5:pastE f s2 with
       | none=>rw[e5]at hp1;cases hp1
       | some s3=>
         rw[bh_of p1,bh_of e4]at e
         have t1:=(pastE_shorter p1).2
         have t2:=(pastE_shorter e4).2.trans t1
         unfold ifE at e
         split at e
         · cases e
         · split at e
           · exact ih s1 s2 a e4 (tailN _ t1) e
           · exact ih s2 s3 a e5 (tailN _ t2) e
   split at e
   · rename_i h1
     have e3:(prt x).toNat=1:=by unfold prt;rw[if_neg (by omega),if_neg (by omega),if_pos (by omega)];rfl
     obtain⟨s1,p1,_⟩:=one (by omega) (by omega)
     cases e2:evE es q f m with
     | error n=>rw[e2]at e;cases e
     | ok v=>rw[e2]at e;exact oneE_is h (ih m s1 v p1 hn.tail e2) e
   · cases e2:evE es q f m with
     | error n=>rw[e2]at e;cases e
     | ok v=>
       rw[e2]at e
       simp only[bindE]at e
       cases e3:evE es q f (bh f m)with
       | error n=>rw[e3]at e;cases e
       | ok u=>rw[e3]at e;exact twoE_is e
theorem partsE_fst {pv:List Nd→Option (List Nd)}{k:Nat}{v r:List Nd}(h:partsE pv (k+1) v=some r):∃s,pv v=some s∧partsE pv k s=some r:=by
 simp only[partsE]at h
 cases e:pv v with
 | none=>rw[e]at h;cases h
 | some s=>rw[e]at h;exact⟨s,rfl,h⟩
section
variable {es:List En} {q:Rq} {f g:Nat} {φ :List Nd→List Nd}
theorem evS_lift (h:∀v r,pastE f v=some r→pastE g (φ v)=some (φ r)∧evE es q g (φ v)=evE es q f v):
 ∀(k:Nat) (v r:List Nd),partsE (pastE f) k v=some r→evS (evE es q g) (bh g) k (φ v)=evS (evE es q f) (bh f) k v
 | 0,v,r,_=>rfl
 | k+1,v,r,hp=>by
   obtain⟨s,h1,h2⟩:=partsE_fst hp
   obtain⟨h3,h4⟩:=h v s h1
   simp only[evS]
   rw[h4,bh_of h3,bh_of h1,evS_lift h k s r h2]
theorem evR_lift (hc:∀x r,x.op=7→ φ (x::r)=x:: φ r)(h:∀v r,pastE f v=some r→pastE g (φ v)=some (φ r)∧evE es q g (φ v)=evE es q f v):
 ∀(k:Nat) (last:ByteArray) (v r:List Nd),recLoop (pastE f) k last v=some r→evR (evE es q g) (bh g) k (φ v)=evR (evE es q f) (bh f) k v
 | 0,_,v,r,_=>by cases v<;>rfl
 | k+1,_,[],r,hp=>by simp[recLoop]at hp
 | k+1,last,x::v,r,hp=>by
   simp only[recLoop]at hp
   split at hp
   · rename_i hx
     cases e:pastE f v with
     | none=>rw[e]at hp;cases hp
     | some s=>
       rw[e]at hp
       obtain⟨h3,h4⟩:=h v s e
       rw[hc x v hx.1]
       simp only[evR]
       rw[h4,bh_of h3,bh_of e,evR_lift hc h k _ s r hp]
   · cases hp
theorem evE_lift (hc:∀x r,x.op=7→ φ (x::r)=x:: φ r)(h:∀v r,pastE f v=some r→pastE g (φ v)=some (φ r)∧evE es q g (φ v)=evE es q f v)
 {x:Nd} {m r:List Nd} (hp:pastE (f+1) (x::m)=some r):evE es q (g+1) (x:: φ m)=evE es q (f+1) (x::m):=by
 obtain⟨f',y,m',e1,e2,h7,hx,hr⟩:=pastE_cons hp
 obtain rfl:f=f':=by omega
 cases e2
 have hrng:1≤x.op∧x.op≤27:=by
  unfold exOk prt at hx
  repeat' split at hx
  all_goals first | omega | cases hx
 have pp:x.op≠6→partsE (pastE f) (prt x).toNat m=some r:=by
  intro h6
  rcases hr with⟨h6',_⟩ | ⟨_,hp⟩
  · exact absurd h6' h6
  · exact hp
 simp only[evE]
 by_cases c4:1≤x.op∧x.op≤4
 · rw[if_pos c4,if_pos c4]
 rw[if_neg c4,if_neg c4]
 by_cases c5:x.op=5
 · have hq:=pp (by omega)
   have e5:(prt x).toNat=x.n.toNat:=by unfold prt;rw[if_pos (Or.inl c5)]
   rw[e5]at hq
   rw[if_pos c5,if_pos c5,evS_lift h _ _ _ hq]
 rw[if_neg c5,if_neg c5]
 by_cases c6:x.op=6
 · rw[if_pos c6,if_pos c6]
   rcases hr with⟨_,hq⟩ | ⟨h6,_⟩
   · rw[evR_lift hc h _ _ _ _ hq]
   · exact absurd c6 h6
 rw[if_neg c6,if_neg c6]
 by_cases c8:x.op=8
 · rw[if_pos c8,if_pos c8]
 rw[if_neg c8,if_neg c8]
 have hq:=pp c6
 obtain⟨k,hk⟩:∃k,(prt x).toNat=k+1:=by
  unfold prt
  rw[if_neg (by omega),if_neg (by omega)]
  split
  · exact⟨0,rfl⟩
  · split
    · exact⟨2,rfl⟩
    · exact⟨1,by first | rfl | (split<;>first | rfl | omega)⟩
 rw[hk]at hq
 obtain⟨s1,p1,hq1⟩:=partsE_fst hq
 obtain⟨g1,v1⟩:=h m s1 p1
 by_cases c1:x.op=9∨x.op=10∨21≤x.op∧x.op≤24
 · rw[if_neg (by omega),if_neg (by omega),if_neg (by omega),if_pos c1,if_neg (by omega),if_neg (by omega),if_neg (by omega),if_pos c1,v1]
 obtain⟨k2,hk2⟩:∃k,(prt x).toNat=k+2:=by
  unfold prt
  rw[if_neg (by omega),if_neg (by omega),if_neg (by omega)]
  split
  · exact⟨1,rfl⟩
  · exact⟨0,by first | rfl | (split<;>first | rfl | omega)⟩
 obtain rfl:k=k2+1:=by omega
 obtain⟨s2,p2,hq2⟩:=partsE_fst hq1
 obtain⟨g2,v2⟩:=h s1 s2 p2
 by_cases c3:x.op=13
 · have e3:(prt x).toNat=3:=by unfold prt;rw[c3];rfl
   obtain rfl:k2=1:=by omega
   obtain⟨s3,p3,_⟩:=partsE_fst hq2
   obtain⟨g3,v3⟩:=h s2 s3 p3
   rw[if_neg (by omega),if_neg (by omega),if_pos c3,if_neg (by omega),if_neg (by omega),if_pos c3,bh_of g1,bh_of p1,bh_of g2,bh_of p2,v1,v2,v3]
 rw[if_neg c3,if_neg c3,if_neg c1,if_neg c1,bh_of g1,bh_of p1,v1,v2]
end
theorem ev_more (es:List En)(q:Rq):∀(f:Nat) (v r:List Nd),pastE f v=some r→evE es q (f+1) v=evE es q f v
 | 0,v,r,h=>by simp[pastE]at h
 | f+1,v,r,h=>by
   obtain⟨f',x,m,e1,rfl,_⟩:=pastE_cons h
   exact evE_lift (φ :=id) (fun _ _ _=>rfl) (fun v r hv=>⟨pastE_more f v r hv,ev_more es q f v r hv⟩) h
theorem ev_mono {es:List En}{q:Rq}{f g:Nat}{v r:List Nd}(h:pastE f v=some r)(hg:f≤g):evE es q g v=evE es q f v:=by
 obtain⟨d,rfl⟩:∃d,g=f+d:=⟨g-f,by omega⟩
 clear hg
 induction d with
 | zero=>rfl
 | succ d ih=>rw[←Nat.add_assoc,ev_more es q (f+d) v r (pastE_mono h (by omega)),ih]
theorem ev_any {es:List En}{q:Rq}{f g:Nat}{v r:List Nd}(h:pastE f v=some r)(hg:v.length<g):evE es q g v=evE es q f v:=by
 by_cases hf:f≤g
 · exact ev_mono h hf
 · exact(ev_mono (pastE_any h hg) (by omega)).symm
theorem ev_append (es:List En)(q:Rq)(z:List Nd):∀(f:Nat) (v r:List Nd),pastE f v=some r→evE es q f (v++z)=evE es q f v
 | 0,v,r,h=>by simp[pastE]at h
 | f+1,v,r,h=>by
   obtain⟨f',x,m,e1,rfl,_⟩:=pastE_cons h
   exact evE_lift (φ :=(· ++z)) (fun _ _ _=>rfl) (fun v r hv=>⟨pastE_append z f v r hv,ev_append es q z f v r hv⟩) h
noncomputable def ev0 (es:List En) (q:Rq) (a:List Nd):Except Int (List Nd):=evE es q (a.length+1) a
theorem ev_part {es:List En}{q:Rq}{a:List Nd}(h:xfault a=0)(z:List Nd){f:Nat}(hf:a.length<f):evE es q f (a++z)=ev0 es q a∧pastE f (a++z)=some z∧bh f (a++z)=z:=by
 have h1:=(xfault_zero h).2
 have h2:pastE f a=some []:=pastE_any h1 hf
 have h3:=pastE_append z f a [] h2
 rw[List.nil_append]at h3
 refine⟨?_,h3,bh_of h3⟩
 rw[ev_append es q z f a [] h2]
 exact ev_any h1 hf
theorem valueL_ex {es:List En}{q:Rq}{e:List Nd}(h:xfault e=0):valueL es q e=if stf es=0 then(if askf q=0 then ev0 es q e else .error (askf q))else .error (stf es):=by
 unfold valueL
 rw[if_pos h]
 rfl
theorem valueL_ok {es:List En}{q:Rq}{e v:List Nd}(h:valueL es q e= .ok v):stf es=0∧askf q=0∧xfault e=0∧ev0 es q e= .ok v:=by
 unfold valueL at h
 split at h
 · split at h
   · split at h
     · exact⟨by assumption,by assumption,by assumption,h⟩
     · cases h
   · cases h
 · cases h
theorem recLoop_row {f:Nat}:∀(k:Nat) (last:ByteArray) (u r:List Nd),recLoop (pastV f) k last u=some r→
 ∃l:List Fd,u=(l.map itemOf).flatten++r∧l.length=k∧RStrict l∧(∀p∈l,nfault p.1.data.toList=0∧pastV f p.2=some [])∧∀p∈l,cmpB last p.1<0
 | 0,last,u,r,h=>by
   simp only[recLoop,Option.some.injEq]at h
   subst h
   exact⟨[],rfl,rfl,List.Pairwise.nil,by simp,by simp⟩
 | k+1,last,[],r,h=>by simp[recLoop]at h
 | k+1,last,x::u,r,h=>by
   simp only[recLoop]at h
   split at h
   · rename_i hx
     obtain⟨x7,xo,xl⟩:=hx
     cases e:pastV f u with
     | none=>rw[e]at h;cases h
     | some s=>
       rw[e]at h
       obtain⟨a,ea,ha⟩:=pastV_front f u s e
       obtain⟨l,e1,e2,e3,e4,e5⟩:=recLoop_row k x.s s r h
       have hnd:nfault x.s.data.toList=0∧x=⟨7,0,x.s,⟨#[]⟩⟩:=by
        unfold ndOk at xo
        rw[if_neg (by omega),if_neg (by omega),if_neg (by omega),if_neg (by omega),if_neg (by omega),if_pos x7]at xo
        simp only[Bool.and_eq_true,beq_iff_eq]at xo
        obtain⟨xop,xn,xs,xt⟩:=x
        simp only at x7 xo ⊢
        obtain⟨⟨h1,h2⟩,h3⟩:=xo
        subst x7
        refine⟨h3,?_⟩
        rw[h1,empty_bytes h2]
       refine⟨(x.s,a)::l,?_,by simp[e2],List.pairwise_cons.2 ⟨fun p hp=>e5 p hp,e3⟩,fun p hp=>?_,fun p hp=>?_⟩
       · rw[ea,e1,List.map_cons,List.flatten_cons]
         unfold itemOf
         rw[←hnd.2]
         simp
       · rcases List.mem_cons.1 hp with rfl | hp
         · exact⟨hnd.1,ha⟩
         · exact e4 p hp
       · rcases List.mem_cons.1 hp with rfl | hp
         · exact xl
         · exact cmpB_is.lt_le xl (by have:=e5 p hp;omega)
   · cases h
theorem evS_vals {es:List En}{q:Rq}{f:Nat}(z:List Nd):∀(l:List (List Nd)),(∀v∈l,pastE f v=some []∧evE es q f v= .ok v)→evS (evE es q f) (bh f) l.length (l.flatten++z)= .ok l
 | [],_=>rfl
 | v::l,h=>by
   obtain⟨h1,h2⟩:=h v List.mem_cons_self
   have h3:=pastE_append (l.flatten++z) f v [] h1
   rw[List.nil_append]at h3
   simp only[List.length_cons,evS,List.flatten_cons,List.append_assoc]
   rw[ev_append es q _ f v [] h1,h2,bh_of h3,evS_vals z l (fun u hu=>h u (List.mem_cons_of_mem _ hu))]
theorem evR_vals {es:List En}{q:Rq}{f:Nat}(z:List Nd):∀(l:List Fd),(∀p∈l,pastE f p.2=some []∧evE es q f p.2= .ok p.2)→evR (evE es q f) (bh f) l.length ((l.map itemOf).flatten++z)= .ok l
 | [],_=>by cases z<;>rfl
 | p::l,h=>by
   obtain⟨h1,h2⟩:=h p List.mem_cons_self
   have h3:=pastE_append ((l.map itemOf).flatten++z) f p.2 [] h1
   rw[List.nil_append]at h3
   simp only[List.length_cons,List.map_cons,List.flatten_cons,itemOf,List.cons_append,List.append_assoc,evR]
   rw[ev_append es q _ f p.2 [] h1,h2,bh_of h3]
   have:=evR_vals z l (fun u hu=>h u (List.mem_cons_of_mem _ hu))
   rw[this]
theorem past_val {f:Nat}{v:List Nd}(h:pastV f v=some [])(hl:v.length≤200):vfault v=0:=by
 have h2:pastV (v.length+1) v=some []:=by
  by_cases hf:f≤v.length+1
  · have:=pastV_behind [] f (v.length+1) v [] hf h;simpa using this
  · rw[←pastV_fuel f (v.length+1) v (by omega) (by omega)];exact h
 unfold vfault isVal
 rw[if_neg (by omega),h2]
 rfl
theorem const_ev (es:List En)(q:Rq):∀(f:Nat) (v:List Nd),pastV f v=some []→v.length≤200→evE es q f v= .ok v
 | 0,v,h,_=>by simp[pastV]at h
 | f+1,[],h,_=>by simp[pastV]at h
 | f+1,x::m,h,hl=>by
   have hv:=past_val h hl
   obtain⟨_,_,e,_,h7,hok,_⟩:=value_head hv
   cases e
   have ih:=const_ev es q f
   have hop:=ndOk_op hok
   simp only[pastV]at h
   rw[if_pos ⟨h7,hok⟩]at h
   simp only[evE]
   by_cases h5:x.op=5
   · rw[if_neg (by omega),if_pos h5]
     rw[if_pos h5]at h
     obtain⟨l,e1,e2,e3,e4,_,_⟩:=setLoop_front (pv:=pastV f) (fun u r hu=>pastV_front f u r hu) (fun u r hu s=>pastV_more f hu s) _ _ _ _ h
     rw[List.append_nil]at e1
     have hle:l.flatten.length+1≤200:=by rw[←e1];simpa using hl
     have hlen:∀v∈l,v.length≤200:=fun v hv=>by have:=mem_flat hv;omega
     have h6:=evS_vals (es:=es) (q:=q) (f:=f) [] l (fun v hv=>⟨pastV_pastE _ _ _ (e4 v hv),ih v (e4 v hv) (hlen v hv)⟩)
     rw[List.append_nil,e2,←e1]at h6
     rw[h6]
     obtain⟨L,hL,eL⟩:=set_row hv h5
     have hx:x=⟨5,l.length,⟨#[]⟩,⟨#[]⟩⟩:=by
      have hxL:x=⟨5,(L.length:Int),⟨#[]⟩,⟨#[]⟩⟩:=(List.cons.inj eL).1
      rw[hxL]at e2
      have:L.length=l.length:=by simpa using e2.symm
      rw[hxL,this]
     have hsl:setL l=l:=(setL_is e3 (fun x=>Iff.rfl)).symm
     have hN:setN l=x::m:=by rw[hx,e1];rfl
     simp only[bindE,setE]
     rw[hsl,hN,if_pos hl]
   · by_cases h6:x.op=6
     · rw[if_neg (by omega),if_neg h5,if_pos h6]
       rw[if_neg h5,if_pos h6]at h
       obtain⟨l,e1,e2,e3,e4,_⟩:=recLoop_row _ _ _ _ h
       rw[List.append_nil]at e1
       have hsz:fsize l+1≤200:=by rw[←fsize_flat,←e1];simpa using hl
       have hlen:∀p∈l,p.2.length≤200:=fun p hp=>by have:=mem_fsize hp;omega
       have h8:=evR_vals (es:=es) (q:=q) (f:=f) [] l (fun p hp=>⟨pastV_pastE _ _ _ (e4 p hp).2,ih p.2 (e4 p hp).2 (hlen p hp)⟩)
       rw[List.append_nil,e2,←e1]at h8
       rw[h8]
       have hnd:(l.map Prod.fst).Nodup:=by
        rw[List.Nodup,List.pairwise_map]
        exact e3.imp (fun {a b} hab e=>by rw[e,cmpB_self]at hab;omega)
       have hrf:rfault [] l=0:=(rfault_zero [] l).2 ⟨fun p hp=>⟨(e4 p hp).1,past_val (e4 p hp).2 (hlen p hp)⟩,by simp,hnd⟩
       have hrs:recS l=l:=(recS_is hnd e3 (fun x=>Iff.rfl)).symm
       have hN:recN l=x::m:=by
        have hx:x=⟨6,(l.length:Int),⟨#[]⟩,⟨#[]⟩⟩:=by
         unfold ndOk at hok
         rw[if_neg (by omega),if_neg (by omega),if_neg (by omega),if_neg (by omega),if_pos (by omega)]at hok
         simp only[Bool.and_eq_true,decide_eq_true_eq]at hok
         obtain⟨xop,xn,xs,xt⟩:=x
         simp only at h6 hok e2 ⊢
         obtain⟨⟨h1,h2⟩,h3⟩:=hok
         subst h6
         have:xn=(l.length:Int):=by omega
         rw[this,empty_bytes h1,empty_bytes h2]
        rw[hx,e1];rfl
       simp only[bindE,recE]
       rw[if_pos hrf,hrs,hN,if_pos hl]
     · rw[if_neg h5,if_neg h6]at h
       injection h with h
       subst h
       rw[if_pos (by omega)]
theorem const0 {es:List En}{q:Rq}{v:List Nd}(h:vfault v=0):ev0 es q v= .ok v:=const_ev es q _ v (vfault_zero h).2 (vfault_zero h).1
theorem ev_put (es:List En)(q:Rq)(s:ByteArray){V:List Nd}(hV:vfault V=0)(hq:varE q s= .ok V):
 ∀(f:Nat) (v r:List Nd),pastE f v=some r→evE es q (f+(V.length+1)) (putE s V v)=evE es q f v
 | 0,v,r,h=>by simp[pastE]at h
 | f+1,v,r,h=>by
   have hx:=value_ex hV
   obtain⟨f',x,m,e1,rfl,h7,hok,hr⟩:=pastE_cons h
   rw[putE_cons]
   cases hs:isV s x with
   | true=>
     obtain⟨h8,hxs⟩:=(isV_iff s x).1 hs
     rw[rep_yes hs,(ev_part hx _ (by omega)).1,const0 hV]
     simp only[evE]
     rw[if_neg (by omega),if_neg (by omega),if_neg (by omega),if_pos h8,hxs,hq]
   | false=>
     rw[rep_no hs,show f+1+(V.length+1)=(f+(V.length+1))+1 by omega]
     exact evE_lift (φ :=putE s V) (fun x r h7=>by rw[putE_cons,rep_no (isV_op (by omega))];rfl) (fun v r hv=>⟨pastE_put s (xfault_zero hx).2 f v r hv,ev_put es q s hV hq f v r hv⟩) h
theorem ev0_put {es:List En}{q:Rq}{s:ByteArray}{V e:List Nd}(hV:vfault V=0)(hq:varE q s= .ok V)(he:xfault e=0)(hl:(putE s V e).length≤200):ev0 es q (putE s V e)=ev0 es q e:=by
 have h1:=(xfault_zero he).2
 have h2:=ev_put es q s hV hq _ _ _ h1
 have h4:=pastE_put s (xfault_zero (value_ex hV)).2 _ _ _ h1
 unfold ev0
 rw[←h2]
 exact ev_any h4 (by omega)
def oN (o:Int):Nd:=⟨o,0,⟨#[]⟩,⟨#[]⟩⟩
section
variable {es:List En} {q:Rq}
theorem op1_ex {o:Int}(h7:o≠7)(h6:o≠6)(hx:exOk (oN o)=true)(hp:prt (oN o)=1){a:List Nd}(ha:xfault a=0)(hl:a.length+1≤200):xfault (oN o::a)=0:=by
 refine xfault_ok (by simp;omega) ((isEx_iff _).2 ?_)
 rw[pastE_parts (g:=(oN o::a).length) (x:=oN o) h7 hx h6,hp]
 have:=(ev_part (es:=[]) (q:=⟨⟨⟨#[]⟩,⟨#[]⟩⟩,⟨⟨#[]⟩,⟨#[]⟩⟩,⟨⟨#[]⟩,⟨#[]⟩⟩,[]⟩) ha [] (f:=(oN o::a).length) (by simp)).2.1
 rw[List.append_nil]at this
 show partsE _ 1 a=_
 simp only[partsE]
 rw[this]
theorem op2_ex {o:Int}(h7:o≠7)(h6:o≠6)(hx:exOk (oN o)=true)(hp:prt (oN o)=2){a b:List Nd}(ha:xfault a=0)(hb:xfault b=0)(hl:a.length+b.length+1≤200):xfault (oN o::(a++b))=0:=by
 refine xfault_ok (by simp;omega) ((isEx_iff _).2 ?_)
 rw[pastE_parts (g:=(oN o::(a++b)).length) (x:=oN o) h7 hx h6,hp]
 have h1:=(ev_part (es:=[]) (q:=⟨⟨⟨#[]⟩,⟨#[]⟩⟩,⟨⟨#[]⟩,⟨#[]⟩⟩,⟨⟨#[]⟩,⟨#[]⟩⟩,[]⟩) ha b (f:=(oN o::(a++b)).length) (by simp;omega)).2.1
 have h2:=(ev_part (es:=[]) (q:=⟨⟨⟨#[]⟩,⟨#[]⟩⟩,⟨⟨#[]⟩,⟨#[]⟩⟩,⟨⟨#[]⟩,⟨#[]⟩⟩,[]⟩) hb [] (f:=(oN o::(a++b)).length) (by simp;omega)).2.1
 rw[List.append_nil]at h2
 show partsE _ 2 (a++b)=_
 simp only[partsE]
 rw[h1]
 simp only
 rw[h2]
theorem if_ex {a b c:List Nd}(ha:xfault a=0)(hb:xfault b=0)(hc:xfault c=0)(hl:a.length+b.length+c.length+1≤200):xfault (oN 13::(a++(b++c)))=0:=by
 refine xfault_ok (by simp;omega) ((isEx_iff _).2 ?_)
 rw[pastE_parts (g:=(oN 13::(a++(b++c))).length) (x:=oN 13) (by decide) rfl (by decide)]
 have h1:=(ev_part (es:=[]) (q:=⟨⟨⟨#[]⟩,⟨#[]⟩⟩,⟨⟨#[]⟩,⟨#[]⟩⟩,⟨⟨#[]⟩,⟨#[]⟩⟩,[]⟩) ha (b++c) (f:=(oN 13::(a++(b++c))).length) (by simp;omega)).2.1
 have h2:=(ev_part (es:=[]) (q:=⟨⟨⟨#[]⟩,⟨#[]⟩⟩,⟨⟨#[]⟩,⟨#[]⟩⟩,⟨⟨#[]⟩,⟨#[]⟩⟩,[]⟩) hb c (f:=(oN 13::(a++(b++c))).length) (by simp;omega)).2.1
 have h3:=(ev_part (es:=[]) (q:=⟨⟨⟨#[]⟩,⟨#[]⟩⟩,⟨⟨#[]⟩,⟨#[]⟩⟩,⟨⟨#[]⟩,⟨#[]⟩⟩,[]⟩) hc [] (f:=(oN 13::(a++(b++c))).length) (by simp;omega)).2.1
 rw[List.append_nil]at h3
 show partsE _ 3 (a++(b++c))=_
 simp only[partsE]
 rw[h1]
 simp only
 rw[h2]
 simp only
 rw[h3]
theorem ev_not {a:List Nd}(ha:xfault a=0):ev0 es q (oN 9::a)=bindE (ev0 es q a) (oneE es (oN 9)):=by
 have h:=(ev_part (es:=es) (q:=q) ha [] (f:=(oN 9::a).length) (by simp)).1
 rw[List.append_nil]at h
 show evE es q ((oN 9::a).length+1) (oN 9::a)=_
 rw[show evE es q ((oN 9::a).length+1) (oN 9::a)=bindE (evE es q (oN 9::a).length a) (oneE es (oN 9)) from rfl,h]
theorem ev_two {o:Int}{a b:List Nd}(ha:xfault a=0)(hb:xfault b=0):evE es q ((oN o::(a++b)).length) (a++b)=ev0 es q a∧evE es q ((oN o::(a++b)).length) (bh ((oN o::(a++b)).length) (a++b))=ev0 es q b:=by
 have h1:=ev_part (es:=es) (q:=q) ha b (f:=(oN o::(a++b)).length) (by simp;omega)
 have h2:=ev_part (es:=es) (q:=q) hb [] (f:=(oN o::(a++b)).length) (by simp;omega)
 rw[List.append_nil]at h2
 exact⟨h1.1,by rw[h1.2.2];exact h2.1⟩
theorem ev_and {a b:List Nd}(ha:xfault a=0)(hb:xfault b=0):ev0 es q (oN 11::(a++b))=lazyE false (ev0 es q a) (ev0 es q b):=by
 obtain⟨h1,h2⟩:=ev_two (es:=es) (q:=q) (o:=11) ha hb
 rw[←h1,←h2];rfl
theorem ev_or {a b:List Nd}(ha:xfault a=0)(hb:xfault b=0):ev0 es q (oN 12::(a++b))=lazyE true (ev0 es q a) (ev0 es q b):=by
 obtain⟨h1,h2⟩:=ev_two (es:=es) (q:=q) (o:=12) ha hb
 rw[←h1,←h2];rfl
theorem ev_eq {a b:List Nd}(ha:xfault a=0)(hb:xfault b=0):ev0 es q (oN 14::(a++b))=bindE (ev0 es q a) fun x=>bindE (ev0 es q b) fun y=>twoE es 14 x y:=by
 obtain⟨h1,h2⟩:=ev_two (es:=es) (q:=q) (o:=14) ha hb
 rw[←h1,←h2];rfl
theorem ev_one {a b:List Nd}(ha:xfault a=0)(hb:xfault b=0):ev0 es q (oN 25::(a++b))=bindE (ev0 es q a) fun x=>bindE (ev0 es q b) fun y=>twoE es 25 x y:=by
 obtain⟨h1,h2⟩:=ev_two (es:=es) (q:=q) (o:=25) ha hb
 rw[←h1,←h2];rfl
theorem ev_in {a b:List Nd}(ha:xfault a=0)(hb:xfault b=0):ev0 es q (oN 20::(a++b))=bindE (ev0 es q a) fun x=>bindE (ev0 es q b) fun y=>twoE es 20 x y:=by
 obtain⟨h1,h2⟩:=ev_two (es:=es) (q:=q) (o:=20) ha hb
 rw[←h1,←h2];rfl
theorem ev_if {a b c:List Nd}(ha:xfault a=0)(hb:xfault b=0)(hc:xfault c=0):ev0 es q (oN 13::(a++(b++c)))=ifE (ev0 es q a) (ev0 es q b) (ev0 es q c):=by
 have h1:=ev_part (es:=es) (q:=q) ha (b++c) (f:=(oN 13::(a++(b++c))).length) (by simp;omega)
 have h2:=ev_part (es:=es) (q:=q) hb c (f:=(oN 13::(a++(b++c))).length) (by simp;omega)
 have h3:=ev_part (es:=es) (q:=q) hc [] (f:=(oN 13::(a++(b++c))).length) (by simp;omega)
 rw[List.append_nil]at h3
 have e:ev0 es q (oN 13::(a++(b++c)))=ifE (evE es q ((oN 13::(a++(b++c))).length) (a++(b++c))) (evE es q ((oN 13::(a++(b++c))).length) (bh ((oN 13::(a++(b++c))).length) (a++(b++c)))) (evE es q ((oN 13::(a++(b++c))).length) (bh ((oN 13::(a++(b++c))).length) (bh ((oN 13::(a++(b++c))).length) (a++(b++c))))):=rfl
 rw[e,h1.2.2,h2.2.2,h1.1,h2.1,h3.1]
theorem not_of (v:List Nd):oneE es (oN 9) v=if opV v=1 then .ok (tN (!(nV v == 1)))else .error 2:=rfl
theorem bool_tN (b:Bool):boolE (.ok (tN b))= .ok b:=by cases b<;>rfl
theorem bool_not (A:Except Int (List Nd)):boolE (bindE A (oneE es (oN 9)))=bindE (boolE A) (fun b=>.ok (!b)):=by
 cases A with
 | error n=>rfl
 | ok v=>
   simp only[bindE,not_of,boolE]
   by_cases h:opV v=1
   · rw[if_pos h,if_pos h]
     show boolE (.ok (tN _))=_
     rw[bool_tN]
   · rw[if_neg h,if_neg h]
theorem lazy_bool (e:Bool)(A B:Except Int (List Nd)):lazyE e A B=bindE (boolE A) (fun t=>if t=e then .ok (tN e)else bindE (boolE B) (fun u=>.ok (tN u))):=by
 unfold lazyE
 cases boolE A with
 | error n=>rfl
 | ok t=>
   simp only[bindE]
   by_cases h:t=e
   · rw[if_pos h,if_pos h]
   · rw[if_neg h,if_neg h]
     cases boolE B<;>rfl
theorem not_tN (b:Bool):oneE es (oN 9) (tN b)= .ok (tN (!b)):=by
 rw[not_of]
 cases b<;>rfl
theorem morgan_one (A B:Except Int (List Nd)):bindE (lazyE false A B) (oneE es (oN 9))=lazyE true (bindE A (oneE es (oN 9))) (bindE B (oneE es (oN 9))):=by
 rw[lazy_bool,lazy_bool,bool_not,bool_not]
 cases boolE A with
 | error n=>rfl
 | ok t=>
   cases boolE B with
   | error n=>cases t<;>simp[bindE,not_tN]
   | ok u=>cases t<;>simp[bindE,not_tN]
theorem morgan_two (A B:Except Int (List Nd)):bindE (lazyE true A B) (oneE es (oN 9))=lazyE false (bindE A (oneE es (oN 9))) (bindE B (oneE es (oN 9))):=by
 rw[lazy_bool,lazy_bool,bool_not,bool_not]
 cases boolE A with
 | error n=>rfl
 | ok t=>
   cases boolE B with
   | error n=>cases t<;>simp[bindE,not_tN]
   | ok u=>cases t<;>simp[bindE,not_tN]
theorem notnot_eq (A B:Except Int (List Nd)):bindE (bindE (bindE A fun x=>bindE B fun y=>twoE es 14 x y) (oneE es (oN 9))) (oneE es (oN 9))=bindE A fun x=>bindE B fun y=>twoE es 14 x y:=by
 cases A with
 | error n=>rfl
 | ok x=>
   cases B with
   | error n=>rfl
   | ok y=>
     show bindE (bindE (.ok (tN _)) _) _=Except.ok (tN _)
     simp[bindE,not_tN]
theorem value_same {a b:List Nd}(ha:xfault a=0)(hb:xfault b=0)(h:ev0 es q a=ev0 es q b):valueL es q a=valueL es q b:=by
 rw[valueL_ex ha,valueL_ex hb,h]
theorem morgan_and {a b:List Nd}(ha:xfault a=0)(hb:xfault b=0)(hl:a.length+b.length+3≤200):
 valueL es q (oN 9::(oN 11::(a++b)))=valueL es q (oN 12::((oN 9::a)++(oN 9::b))):=by
 have na:=op1_ex (o:=9) (by decide) (by decide) rfl rfl ha (by omega)
 have nb:=op1_ex (o:=9) (by decide) (by decide) rfl rfl hb (by omega)
 have ab:=op2_ex (o:=11) (by decide) (by decide) rfl rfl ha hb (by omega)
 refine value_same (op1_ex (by decide) (by decide) rfl rfl ab (by simp;omega)) (op2_ex (by decide) (by decide) rfl rfl na nb (by simp;omega)) ?_
 rw[ev_not ab,ev_and ha hb,ev_or na nb,ev_not ha,ev_not hb,morgan_one]
theorem morgan_or {a b:List Nd}(ha:xfault a=0)(hb:xfault b=0)(hl:a.length+b.length+3≤200):
 valueL es q (oN 9::(oN 12::(a++b)))=valueL es q (oN 11::((oN 9::a)++(oN 9::b))):=by
 have na:=op1_ex (o:=9) (by decide) (by decide) rfl rfl ha (by omega)
 have nb:=op1_ex (o:=9) (by decide) (by decide) rfl rfl hb (by omega)
 have ab:=op2_ex (o:=12) (by decide) (by decide) rfl rfl ha hb (by omega)
 refine value_same (op1_ex (by decide) (by decide) rfl rfl ab (by simp;omega)) (op2_ex (by decide) (by decide) rfl rfl na nb (by simp;omega)) ?_
 rw[ev_not ab,ev_or ha hb,ev_and na nb,ev_not ha,ev_not hb,morgan_two]
theorem not_not {a b:List Nd}(ha:xfault a=0)(hb:xfault b=0)(hl:a.length+b.length+3≤200):
 valueL es q (oN 9::(oN 9::(oN 14::(a++b))))=valueL es q (oN 14::(a++b)):=by
 have ab:=op2_ex (o:=14) (by decide) (by decide) rfl rfl ha hb (by omega)
 have nab:=op1_ex (o:=9) (by decide) (by decide) rfl rfl ab (by simp;omega)
 refine value_same (op1_ex (by decide) (by decide) rfl rfl nab (by simp;omega)) ab ?_
 rw[ev_not nab,ev_not ab,ev_eq ha hb,notnot_eq]
theorem truth_is {v:List Nd}(h:vfault v=0)(h1:opV v=1):v=tN (nV v == 1):=by
 obtain⟨x,r,rfl,hl,h7,hok,hp⟩:=value_head h
 have x1:x.op=1:=h1
 rw[(isVal_past h).2,if_neg (by omega),if_neg (by omega)]at hp
 injection hp with hp
 subst hp
 unfold ndOk at hok
 rw[if_pos x1]at hok
 obtain⟨xop,xn,xs,xt⟩:=x
 simp only[Bool.and_eq_true,Bool.or_eq_true,beq_iff_eq]at hok x1
 obtain⟨⟨e1,e2⟩,e3⟩:=hok
 rw[x1,empty_bytes e1,empty_bytes e2]
 rcases e3 with rfl | rfl<;>rfl
theorem short_if {a b c v:List Nd}(ha:xfault a=0)(hb:xfault b=0)(hc:xfault c=0)(hv:ev0 es q a= .ok v)(h1:opV v=1):ev0 es q (oN 13::(a++(b++c)))=if nV v=1 then ev0 es q b else ev0 es q c:=by
 rw[ev_if ha hb hc,hv]
 simp only[ifE,boolE]
 rw[if_pos h1]
 by_cases h:nV v=1
 · simp[h]
 · simp[h]
theorem short_and {a b v:List Nd}(ha:xfault a=0)(hb:xfault b=0)(hv:ev0 es q a= .ok v)(hva:vfault v=0)(h1:opV v=1)(hn:nV v≠1):ev0 es q (oN 11::(a++b))= .ok v:=by
 rw[ev_and ha hb,hv]
 simp only[lazyE,boolE]
 rw[if_pos h1]
 have e:(nV v == 1)=false:=by simpa using hn
 rw[e]
 simp only[if_true]
 rw[truth_is hva h1,e]
theorem short_or {a b v:List Nd}(ha:xfault a=0)(hb:xfault b=0)(hv:ev0 es q a= .ok v)(hva:vfault v=0)(h1:opV v=1)(hn:nV v=1):ev0 es q (oN 12::(a++b))= .ok v:=by
 rw[ev_or ha hb,hv]
 simp only[lazyE,boolE]
 rw[if_pos h1]
 have e:(nV v == 1)=true:=by simpa using hn
 rw[e]
 simp only[if_true]
 rw[truth_is hva h1,e]
theorem parts_rows {f:Nat}(z:List Nd):∀(l:List (List Nd)),(∀a∈l,xfault a=0∧a.length<f)→partsE (pastE f) l.length (l.flatten++z)=some z
 | [],_=>rfl
 | a::l,h=>by
   obtain⟨h1,h2⟩:=h a List.mem_cons_self
   simp only[List.length_cons,List.flatten_cons,List.append_assoc,partsE]
   rw[(ev_part (es:=[]) (q:=⟨⟨⟨#[]⟩,⟨#[]⟩⟩,⟨⟨#[]⟩,⟨#[]⟩⟩,⟨⟨#[]⟩,⟨#[]⟩⟩,[]⟩) h1 (l.flatten++z) h2).2.1]
   exact parts_rows z l (fun b hb=>h b (List.mem_cons_of_mem _ hb))
def okAll (ev:List Nd→Except Int (List Nd)):List (List Nd)→Except Int (List (List Nd))
 | []=>.ok []
 | a::l=>bindE (ev a) fun v=>bindE (okAll ev l) fun vs=>.ok (v::vs)
theorem evS_rows {f:Nat}(z:List Nd):∀(l:List (List Nd)),(∀a∈l,xfault a=0∧a.length<f)→evS (evE es q f) (bh f) l.length (l.flatten++z)=okAll (ev0 es q) l
 | [],_=>rfl
 | a::l,h=>by
   obtain⟨h1,h2⟩:=h a List.mem_cons_self
   have h3:=ev_part (es:=es) (q:=q) h1 (l.flatten++z) h2
   simp only[List.length_cons,List.flatten_cons,List.append_assoc,evS,okAll]
   rw[h3.1,h3.2.2,evS_rows z l (fun b hb=>h b (List.mem_cons_of_mem _ hb))]
   cases ev0 es q a with
   | error n=>rfl
   | ok v=>
     simp only[bindE]
     cases okAll (ev0 es q) l<;>rfl
def sN (l:List (List Nd)):List Nd:=⟨5,l.length,⟨#[]⟩,⟨#[]⟩⟩::l.flatten
theorem set_ex {l:List (List Nd)}(h:∀a∈l,xfault a=0)(hl:l.flatten.length+1≤200):xfault (sN l)=0:=by
 refine xfault_ok (by simp[sN];simpa using hl) ((isEx_iff _).2 ?_)
 have hx:exOk ⟨5,(l.length:Int),⟨#[]⟩,⟨#[]⟩⟩=true:=by
  unfold exOk ndOk
  simp
 show pastE ((sN l).length+1) (⟨5,(l.length:Int),⟨#[]⟩,⟨#[]⟩⟩::l.flatten)=_
 rw[pastE_parts (g:=(sN l).length) (x:=⟨5,(l.length:Int),⟨#[]⟩,⟨#[]⟩⟩) (by show(5:Int)≠7;decide) hx (by show(5:Int)≠6;decide)]
 have:=parts_rows (f:=(sN l).length) [] l (fun a ha=>⟨h a ha,by have:=mem_flat ha;show a.length<l.flatten.length+1;omega⟩)
 rw[List.append_nil]at this
 exact this
theorem ev_set {l:List (List Nd)}(h:∀a∈l,xfault a=0):ev0 es q (sN l)=bindE (okAll (ev0 es q) l) setE:=by
 have h1:=evS_rows (es:=es) (q:=q) (f:=(sN l).length) [] l (fun a ha=>⟨h a ha,by have:=mem_flat ha;show a.length<l.flatten.length+1;omega⟩)
 rw[List.append_nil]at h1
 rw[←h1]
 rfl
theorem okAll_of {ev:List Nd→Except Int (List Nd)}(g:List Nd→List Nd):∀(l:List (List Nd)),(∀a∈l,ev a= .ok (g a))→okAll ev l= .ok (l.map g)
 | [],_=>rfl
 | a::l,h=>by
   simp only[okAll]
   rw[h a List.mem_cons_self,okAll_of g l (fun b hb=>h b (List.mem_cons_of_mem _ hb))]
   rfl
theorem setL_same {l m:List (List Nd)}(h:∀x,x∈l↔x∈m):setL l=setL m:=
 setL_is (strict_setL l) (fun x=>(mem_setL l x).trans (h x))
theorem setE_same {l m:List (List Nd)}(h:∀x,x∈l↔x∈m):setE l=setE m:=by
 unfold setE
 rw[setL_same h]
theorem sets_same {a b va vb:List Nd}(ha:xfault a=0)(hb:xfault b=0)(hl:2*(a.length+b.length)+1≤200)(h1:ev0 es q a= .ok va)(h2:ev0 es q b= .ok vb):
 xfault (sN [a,b])=0∧xfault (sN [b,a,b])=0∧ev0 es q (sN [a,b])=setE [va,vb]∧ev0 es q (sN [b,a,b])=setE [va,vb]:=by
 have m2:∀x∈[a,b],xfault x=0:=by
  intro x hx
  simp only[List.mem_cons,List.not_mem_nil,or_false]at hx
  rcases hx with rfl | rfl<;>assumption
 have m3:∀x∈[b,a,b],xfault x=0:=by
  intro x hx
  simp only[List.mem_cons,List.not_mem_nil,or_false]at hx
  rcases hx with rfl | rfl | rfl<;>assumption
 refine⟨set_ex m2 (by simp;omega),set_ex m3 (by simp;omega),?_,?_⟩
 · rw[ev_set m2]
   simp only[okAll,h1,h2,bindE]
 · rw[ev_set m3]
   simp only[okAll,h1,h2,bindE]
   exact setE_same (fun x=>by simp only[List.mem_cons,List.not_mem_nil,or_false];exact⟨fun h=>by rcases h with h | h | h<;>simp[h],fun h=>by rcases h with h | h<;>simp[h]⟩)
theorem sets_has {a b va vb s:List Nd}(ha:xfault a=0)(hb:xfault b=0)(hl:2*(a.length+b.length)+1≤200)(h1:ev0 es q a= .ok va)(h2:ev0 es q b= .ok vb)(k1:IsV va)(k2:IsV vb)(hs:setE [va,vb]= .ok s)(hbl:1≤b.length):
 xfault (oN 25::(sN [a,b]++a))=0∧ev0 es q (oN 25::(sN [a,b]++a))= .ok (tN true):=by
 obtain⟨x1,_,e1,_⟩:=sets_same ha hb hl h1 h2
 refine⟨op2_ex (by decide) (by decide) rfl rfl x1 ha (by simp[sN];omega),?_⟩
 rw[ev_one x1 ha,e1,hs,h1]
 obtain⟨_,hS,rfl⟩:=setE_is (fun v hv=>by simp only[List.mem_cons,List.not_mem_nil,or_false]at hv;rcases hv with rfl | rfl<;>assumption) hs
 show(if opV (setN (setL [va,vb]))=5 then Except.ok (tN (inB (setR (setN (setL [va,vb]))) va))else .error 2)=_
 rw[if_pos (show opV (setN (setL [va,vb]))=5 from rfl),setR_of hS,(inB_iff _ _).2 ((mem_setL _ _).2 (by simp))]
end
theorem ins_length (v:List Nd):∀(l:List (List Nd)),(ins v l).length≤l.length+1
 | []=>by simp[ins]
 | x::l=>by
   simp only[ins]
   have:=ins_length v l
   repeat' split
   all_goals simp only[List.length_cons]
   all_goals omega
theorem setL_length:∀(vs:List (List Nd)),(setL vs).length≤vs.length
 | []=>Nat.le_refl _
 | v::vs=>by
   have h1:=setL_length vs
   have h2:=ins_length v (setL vs)
   have e:setL (v::vs)=ins v (setL vs):=rfl
   rw[e,List.length_cons]
   omega
theorem flat_ones:∀ {l:List (List Nd)},(∀v∈l,v.length=1)→l.flatten.length=l.length
 | [],_=>rfl
 | v::l,h=>by
   rw[List.flatten_cons,List.length_append,h v List.mem_cons_self,flat_ones (fun u hu=>h u (List.mem_cons_of_mem _ hu)),List.length_cons]
   omega
section
variable {es:List En} {q:Rq}
theorem set_ents {tops:List Ui}(ht:∀t∈tops,uf t=0)(hl:tops.length≤20):
 xfault (sN (tops.map uN))=0∧(sN (tops.map uN)).length=tops.length+1∧ev0 es q (sN (tops.map uN))= .ok (setN (setL (tops.map uN)))∧IsSet (setL (tops.map uN)):=by
 have hv:∀v∈tops.map uN,IsV v:=fun v hv=>by
  obtain⟨t,h,rfl⟩:=List.mem_map.1 hv
  exact uN_is (ht t h)
 have hx:∀v∈tops.map uN,xfault v=0:=fun v h=>value_ex (hv v h).val
 have h1:∀v∈tops.map uN,v.length=1:=fun v hv=>by
  obtain⟨t,h,rfl⟩:=List.mem_map.1 hv
  rfl
 have hf:=flat_ones h1
 rw[List.length_map]at hf
 have hle:(setN (setL (tops.map uN))).length≤200:=by
  have h2:=setL_length (tops.map uN)
  rw[List.length_map]at h2
  have h3:=flat_ones (l:=setL (tops.map uN)) (fun v hv=>h1 v ((mem_setL _ _).1 hv))
  show((⟨5,_,_,_⟩:Nd)::(setL (tops.map uN)).flatten).length≤200
  rw[List.length_cons,h3]
  omega
 have e1:okAll (ev0 es q) (tops.map uN)= .ok (tops.map uN):=by
  have:=okAll_of (ev:=ev0 es q) id (tops.map uN) (fun v h=>const0 (hv v h).val)
  simpa using this
 have e2:setE (tops.map uN)= .ok (setN (setL (tops.map uN))):=by unfold setE;rw[if_pos hle]
 refine⟨set_ex hx (by omega),by show(_::(tops.map uN).flatten).length=_;rw[List.length_cons,hf],?_,(setE_is hv e2).2.1⟩
 rw[ev_set hx,e1]
 exact e2
open Classical in
theorem below_law {u:Ui}{tops:List Ui}(h1:stf es=0)(h2:askf q=0)(hu:uf u=0)(ht:∀t∈tops,uf t=0)(hl:tops.length≤20):
 valueL es q (oN 20::(uN u++sN (tops.map uN)))= .ok (tN (decide (∃t∈tops,Inn es u t))):=by
 obtain⟨x1,l1,e1,hS⟩:=set_ents (es:=es) (q:=q) ht hl
 have xu:xfault (uN u)=0:=value_ex (uN_is hu).val
 have eu:ev0 es q (uN u)= .ok (uN u):=const0 (uN_is hu).val
 have hx:xfault (oN 20::(uN u++sN (tops.map uN)))=0:=op2_ex (by decide) (by decide) rfl rfl xu x1 (by rw[l1];show 1+_+1≤200;omega)
 rw[valueL_ex hx,if_pos h1,if_pos h2,ev_in xu x1,eu,e1]
 show inE es (uN u) (setN (setL (tops.map uN)))=_
 have e4:∀v∈setL (tops.map uN),opV v=4:=fun v hv=>by
  obtain⟨t,h,rfl⟩:=List.mem_map.1 ((mem_setL _ _).1 hv)
  rfl
 have e5:uidsE (setN (setL (tops.map uN)))=some ((setL (tops.map uN)).map uidV):=by
  unfold uidsE
  rw[if_pos (show opV (setN (setL (tops.map uN)))=5 from rfl),setR_of hS,if_pos e4]
 unfold inE
 rw[if_pos (show opV (uN u)=4 from rfl),e5]
 simp only
 congr 2
 rw[decide_eq_decide]
 constructor
 · rintro⟨t,ht,h⟩
   obtain⟨v,hv,rfl⟩:=List.mem_map.1 ht
   obtain⟨s,hs,rfl⟩:=List.mem_map.1 ((mem_setL _ _).1 hv)
   exact⟨s,hs,h.elim (fun e=>.inl (by exact e.symm)) .inr⟩
 · rintro⟨s,hs,h⟩
   refine⟨s,List.mem_map.2 ⟨uN s,(mem_setL _ _).2 (List.mem_map.2 ⟨s,hs,rfl⟩),rfl⟩,?_⟩
   exact h.elim (fun e=>.inl e.symm) .inr
end
def allE:List (Except Int (List Nd))→Except Int Bool
 | []=>.ok true
 | a::r=>match boolE a with
   | .error n=>.error n
   | .ok false=>.ok false
   | .ok true=>allE r
theorem allE_snoc (x:Except Int (List Nd)):∀l,allE (l++[x])=(match allE l with | .error n=>.error n | .ok false=>.ok false | .ok true=>boolE x)
 | []=>by
   show(match boolE x with | .error n=>.error n | .ok false=>.ok false | .ok true=>.ok true)=boolE x
   cases boolE x with
   | error n=>rfl
   | ok b=>cases b<;>rfl
 | a::r=>by
   have ih:=allE_snoc x r
   rw[List.cons_append]
   unfold allE
   cases boolE a with
   | error n=>rfl
   | ok b=>
     cases b with
     | false=>rfl
     | true=>exact ih
section
variable {es:List En} {q:Rq}
theorem ands_ev:∀(n:Nat) (l:List (List Nd)),l.length=n+1→(∀a∈l,xfault a=0)→(andsL n l).length≤200→
 boolE (ev0 es q (andsL n l))=allE (l.map (ev0 es q))∧(1≤n→ev0 es q (andsL n l)=bindE (allE (l.map (ev0 es q))) fun b=>.ok (tN b))
 | 0,l,hl,h,_=>by
   obtain⟨a,rfl⟩:=List.length_eq_one_iff.1 hl
   refine⟨?_,fun h=>by omega⟩
   have e:andsL 0 [a]=a:=by simp[andsL]
   rw[e]
   show _=(match boolE (ev0 es q a)with | .error n=>(.error n:Except Int Bool) | .ok false=>.ok false | .ok true=>.ok true)
   cases boolE (ev0 es q a)with
   | error n=>rfl
   | ok b=>cases b<;>rfl
 | n+1,l,hl,h,h2=>by
   have hne:l≠[]:=by intro e;rw[e]at hl;cases hl
   rw[←List.dropLast_concat_getLast hne]at h h2 ⊢
   rw[andsL_snoc]at h2 ⊢
   have hd:l.dropLast.length=n+1:=by simp[hl]
   have hz:=h (l.getLast hne) (by simp)
   have hl2:(andsL n l.dropLast).length≤200:=by simp at h2;omega
   have hh:∀a∈l.dropLast,xfault a=0:=fun a ha=>h a (by simp only[List.mem_append];exact .inl ha)
   have ih:=(ands_ev n _ hd hh hl2).1
   have hx:=lk_ands n _ hd hh hl2
   have key:ev0 es q (nO 11::(andsL n l.dropLast++l.getLast hne))=bindE (allE ((l.dropLast++[l.getLast hne]).map (ev0 es q))) fun b=>.ok (tN b):=by
    rw[show nO 11=oN 11 from rfl,ev_and hx hz,lazy_bool,ih,List.map_append,List.map_cons,List.map_nil,allE_snoc]
    cases allE (l.dropLast.map (ev0 es q))with
    | error n=>rfl
    | ok b=>
      cases b with
      | false=>rfl
      | true=>simp[bindE]
   refine⟨?_,fun _=>key⟩
   rw[key]
   cases allE ((l.dropLast++[l.getLast hne]).map (ev0 es q))with
   | error n=>rfl
   | ok b=>exact bool_tN b
open Classical in
noncomputable def fitC (es:List En) (s:Sco) (u:Ui):Bool:=
 if s.op=1 then decide (u=s.u)
 else if s.op=3 then decide (u.t=s.ty)
 else if s.op=2∨s.op=4 then decide (Inn es u s.u) && (decide (s.op=2) || decide (u.t=s.ty))
 else true
theorem okU_uf {u:Ui}(h:okU u=true):uf u=0:=by unfold okU at h;simpa using h
theorem okN_nf {s:ByteArray}(h:okN s=true):nfault s.data.toList=0:=by unfold okN at h;simpa using h
theorem ev_var0 (v:ByteArray):ev0 es q [nSy 8 v]=varE q v:=rfl
theorem ev_isP {s:ByteArray}{a:List Nd}(ha:xfault a=0):ev0 es q (nSy 24 s::a)=bindE (ev0 es q a) (oneE es (nSy 24 s)):=by
 have h:=(ev_part (es:=es) (q:=q) ha [] (f:=(nSy 24 s::a).length) (by simp)).1
 rw[List.append_nil]at h
 show evE es q ((nSy 24 s::a).length+1) (nSy 24 s::a)=_
 rw[show evE es q ((nSy 24 s::a).length+1) (nSy 24 s::a)=bindE (evE es q (nSy 24 s::a).length a) (oneE es (nSy 24 s)) from rfl,h]
theorem in_ents (u t:Ui):inE es (uN u) (uN t)= .ok (tN (by classical exact decide (Inn es u t))):=by
 unfold inE
 rw[if_pos (show opV (uN u)=4 from rfl)]
 have e5:uidsE (uN t)=some [t]:=by
  unfold uidsE
  rw[if_neg (show ¬opV (uN t)=5 from fun h=>absurd h (by show ¬(4:Int)=5;decide)),if_pos (show opV (uN t)=4 from rfl)]
  rfl
 rw[e5]
 simp only
 congr 2
 rw[decide_eq_decide]
 constructor
 · rintro⟨x,hx,h⟩
   simp only[List.mem_singleton]at hx
   subst hx
   exact h.elim (fun e=>.inl (by exact e.symm)) .inr
 · exact fun h=>⟨t,by simp,h.elim (fun e=>.inl (by exact e.symm)) .inr⟩
theorem eq_ents (u t:Ui):twoE es 14 (uN u) (uN t)= .ok (tN (decide (u=t))):=by
 unfold twoE
 rw[if_pos rfl]
 congr 2
 rw[decide_eq_decide]
 constructor
 · intro h
   have:=(lsC_is.zero _ _).1 h
   simp only[uN,List.cons.injEq,Nd.mk.injEq]at this
   exact Ui.ext' this.1.2.2.1 this.1.2.2.2
 · rintro rfl
   exact(lsC_is.zero _ _).2 rfl
theorem sc_ev {v:ByteArray}(hv:Side v){b:Bool}{s:Sco}(h:scOk b s=true)(h5:s.op<5){u:Ui}(hq:varE q v= .ok (uN u)):
 ev0 es q (scE v s)= .ok (tN (fitC es s u)):=by
 have hx:=lk_var (lk_varOk hv)
 have hvar:ev0 es q [nSy 8 v]= .ok (uN u):=by rw[ev_var0,hq]
 obtain⟨op,ty,w⟩:=s
 unfold scOk at h
 unfold scE fitC
 simp only at h h5 ⊢
 have cE:∀ {u:Ui},uf u=0→ev0 es q [nEn u]= .ok (uN u):=fun hu=>const0 (es:=es) (q:=q) (uN_is hu).val
 by_cases h1:op=1
 · subst h1
   rw[if_neg (by omega),if_pos (.inl rfl)]at h
   simp only[Bool.and_eq_true]at h
   have hu:=okU_uf h.2
   rw[if_pos rfl,if_pos rfl]
   have:=ev_eq (es:=es) (q:=q) hx (lk_ent hu)
   rw[hvar,cE hu]at this
   exact this.trans (eq_ents (es:=es) u w)
 rw[if_neg h1,if_neg h1]
 by_cases h2:op=2
 · subst h2
   rw[if_neg (by omega),if_pos (.inr rfl)]at h
   simp only[Bool.and_eq_true]at h
   have hu:=okU_uf h.2
   rw[if_pos rfl,if_neg (by omega),if_pos (.inl rfl)]
   have:=ev_in (es:=es) (q:=q) hx (lk_ent hu)
   rw[hvar,cE hu]at this
   refine this.trans ((in_ents u w).trans ?_)
   simp
 rw[if_neg h2]
 by_cases h3:op=3
 · subst h3
   rw[if_neg (by omega),if_neg (by omega),if_pos rfl]at h
   simp only[Bool.and_eq_true]at h
   rw[if_pos rfl,if_pos rfl,ev_isP hx,hvar]
   rfl
 rw[if_neg h3,if_neg h3]
 by_cases h4:op=4
 · subst h4
   rw[if_neg (by omega),if_neg (by omega),if_neg (by omega),if_pos rfl]at h
   simp only[Bool.and_eq_true]at h
   have hn:=okN_nf h.1
   have hu:=okU_uf h.2
   rw[if_pos rfl,if_pos (.inr rfl)]
   have x1:=lk_is hn hx (by simp)
   have x2:=lk_op2 (x:=nO 20) (by decide) (by decide) rfl rfl hx (lk_ent hu) (by simp)
   have e1:ev0 es q (nSy 24 ty::[nSy 8 v])= .ok (tN (decide (u.t=ty))):=by rw[ev_isP hx,hvar];rfl
   have e2:=ev_in (es:=es) (q:=q) hx (lk_ent hu)
   rw[hvar,cE hu]at e2
   have e3:=e2.trans (in_ents u w)
   have:=ev_and (es:=es) (q:=q) x1 x2
   rw[e1]at this
   refine this.trans ?_
   rw[lazy_bool,bool_tN]
   simp only[bindE]
   by_cases ht:u.t=ty
   · rw[decide_eq_true ht]
     have e4:ev0 es q (nO 20::([nSy 8 v]++[nEn w]))=_:=e3
     rw[e4,bool_tN]
     simp
   · rw[decide_eq_false ht]
     simp
 · rw[if_neg h4,if_neg (by omega)]
   have h0:op=0:=by
    by_cases h0:op=0
    · exact h0
    · exfalso
      rw[if_neg h0,if_neg (by omega),if_neg h3,if_neg h4]at h
      simp at h
      omega
   subst h0
   exact const0 (v:=tN true) (tN_is true).val
theorem cd_ev {c:Cnd}(h:xfault c.ex=0):boolE (ev0 es q (cdE c))=(if c.un then bindE (boolE (ev0 es q c.ex)) (fun b=>.ok (!b))else boolE (ev0 es q c.ex)):=by
 unfold cdE
 cases c.un with
 | false=>rfl
 | true=>
   simp only[if_true]
   rw[show nO 9=oN 9 from rfl,ev_not h,bool_not]
end
def allC:List (Except Int Bool)→Except Int Bool
 | []=>.ok true
 | .error n::_=>.error n
 | .ok false::_=>.ok false
 | .ok true::r=>allC r
theorem allE_C:∀l:List (Except Int (List Nd)),allE l=allC (l.map boolE)
 | []=>rfl
 | a::r=>by
   have ih:=allE_C r
   rw[List.map_cons]
   unfold allE
   cases boolE a with
   | error n=>rfl
   | ok b=>
     cases b with
     | false=>rfl
     | true=>exact ih
section
variable {es:List En} {q:Rq}
noncomputable def cvE (es:List En) (q:Rq) (c:Cnd):Except Int Bool:=if c.un then bindE (boolE (ev0 es q c.ex)) (fun b=>.ok (!b))else boolE (ev0 es q c.ex)
noncomputable def pvL (es:List En) (q:Rq) (p:Po):Except Int Bool:=allC (.ok (fitC es p.who q.who):: .ok (fitC es p.act q.act):: .ok (fitC es p.what q.what)::p.cs.map (cvE es q))
theorem pol_val {p:Po}(h0:pof p=0)(hl:(poE p).length≤200)(hw:p.who.op<5)(hx:p.what.op<5):
 xfault (poE p)=0∧ev0 es q (poE p)=bindE (pvL es q p) fun b=>.ok (tN b):=by
 obtain⟨_,g2,g3,g4,g5,g6⟩:=pof_ways h0
 have ha:p.act.op<5:=by
  have:=g3
  unfold scOk at this
  by_cases h5:p.act.op<5
  · exact h5
  · exfalso
    rw[if_neg (by omega),if_neg (by omega),if_neg (by omega),if_neg (by omega)]at this
    simp at this
 have s1:=sc_ev (es:=es) (q:=q) (v:=sPrin) (.inl rfl) g2 hw (u:=q.who) rfl
 have s2:=sc_ev (es:=es) (q:=q) (v:=sAct) (.inr (.inl rfl)) g3 ha (u:=q.act) rfl
 have s3:=sc_ev (es:=es) (q:=q) (v:=sRes) (.inr (.inr rfl)) g4 hx (u:=q.what) rfl
 have hlen:(poP p).length=(2+p.cs.length)+1:=by simp[poP];omega
 have hall:∀a∈poP p,xfault a=0:=fun a ha=>by
  have hla:a.length≤200:=by
   have h1:=mem_flat_len ha
   have h2:=hl
   unfold poE andsL at h2
   rw[List.length_append]at h2
   omega
  unfold poP at ha
  rcases List.mem_cons.1 ha with rfl | ha
  · exact lk_sc (.inl rfl) g2
  rcases List.mem_cons.1 ha with rfl | ha
  · exact lk_sc (.inr (.inl rfl)) g3
  rcases List.mem_cons.1 ha with rfl | ha
  · exact lk_sc (.inr (.inr rfl)) g4
  obtain⟨c,hc,rfl⟩:=List.mem_map.1 ha
  exact lk_cd (cdf_zero (csf_zero g6 c hc)).1 hla
 refine⟨lk_po h0 hl,?_⟩
 refine((ands_ev (es:=es) (q:=q) _ _ hlen hall hl).2 (by omega)).trans ?_
 congr 1
 rw[allE_C]
 unfold pvL poP
 simp only[List.map_cons,List.map_map]
 rw[s1,s2,s3,bool_tN,bool_tN,bool_tN]
 congr 4
 refine List.map_congr_left (fun c hc=>?_)
 exact cd_ev (cdf_zero (csf_zero g6 c hc)).1
theorem pv_no {p:Po}(h:fitC es p.who q.who=false∨fitC es p.act q.act=false∨fitC es p.what q.what=false):pvL es q p= .ok false:=by
 unfold pvL
 cases h1:fitC es p.who q.who with
 | false=>rfl
 | true=>
   cases h2:fitC es p.act q.act with
   | false=>rfl
   | true=>
     cases h3:fitC es p.what q.what with
     | false=>rfl
     | true=>simp[h1,h2,h3]at h
theorem pv_yes {p:Po}(h1:fitC es p.who q.who=true)(h2:fitC es p.act q.act=true)(h3:fitC es p.what q.what=true):pvL es q p=allC ((p.cs.drop 0).map (cvE es q)):=by
 unfold pvL
 rw[h1,h2,h3]
 rfl
theorem drop_map {p:Po}{k:Nat}(hk:k<p.cs.length):(p.cs.drop k).map (cvE es q)=cvE es q p.cs[k]::(p.cs.drop (k+1)).map (cvE es q):=by
 rw[List.drop_eq_getElem_cons hk,List.map_cons]
theorem cv_err {c:Cnd}{n:Int}(h:ev0 es q c.ex= .error n):∃m,cvE es q c= .error m:=by
 unfold cvE
 rw[h]
 cases c.un with
 | false=>exact⟨n,rfl⟩
 | true=>exact⟨n,rfl⟩
theorem cv_type {c:Cnd}{v:List Nd}(h:ev0 es q c.ex= .ok v)(h1:opV v≠1):∃m,cvE es q c= .error m:=by
 have hb:boolE (.ok v)= .error 2:=by unfold boolE;simp only;rw[if_neg h1]
 unfold cvE
 rw[h,hb]
 cases c.un with
 | false=>exact⟨2,rfl⟩
 | true=>exact⟨2,rfl⟩
theorem cv_bool {c:Cnd}{v:List Nd}(h:ev0 es q c.ex= .ok v)(h1:opV v=1):cvE es q c= .ok (!((nV v == 1) == c.un)):=by
 have hb:boolE (.ok v)= .ok (nV v == 1):=by unfold boolE;simp only;rw[if_pos h1]
 unfold cvE
 rw[h,hb]
 cases c.un with
 | false=>show _=Except.ok _;cases (nV v == 1)<;>rfl
 | true=>show _=Except.ok _;cases (nV v == 1)<;>rfl
end
def auOk (p:Po):Prop:=pof p=0∧(poE p).length≤200∧hsl p.who=false∧hsl p.what=false
def auF (seen:List ByteArray)(p:Po):Int:=
 if pof p=0 then(if seen.any (fun s=>decide (s=p.nm))=true then 6 else if (poE p).length≤200 then(if (hsl p.who || hsl p.what)=true then 1 else 0)else 4)else pof p
def auL:List ByteArray→List Po→Int
 | _,[]=>0
 | seen,p::r=>if auF seen p=0 then auL (seen++[p.nm]) r else auF seen p
def auC (ps:List Po):Int:=if ps.length≤12 then auL [] ps else 4
theorem any_nm {seen:List ByteArray}{s:ByteArray}:seen.any (fun t=>decide (t=s))=true↔s∈seen:=by
 rw[List.any_eq_true]
 constructor
 · rintro⟨t,ht,h⟩
   rw[decide_eq_true_iff]at h
   exact h▸ht
 · exact fun h=>⟨s,h,decide_eq_true rfl⟩
theorem auF_zero {seen:List ByteArray}{p:Po}:auF seen p=0↔auOk p∧p.nm∉seen:=by
 unfold auF auOk
 by_cases h1:pof p=0
 · rw[if_pos h1]
   by_cases h2:p.nm∈seen
   · rw[if_pos (any_nm.2 h2)]
     exact⟨fun h=>absurd h (by decide),fun h=>absurd h2 h.2⟩
   · rw[if_neg (fun h=>h2 (any_nm.1 h))]
     by_cases h3:(poE p).length≤200
     · rw[if_pos h3]
       by_cases h4:(hsl p.who || hsl p.what)=true
       · rw[if_pos h4]
         refine⟨fun h=>absurd h (by decide),fun h=>?_⟩
         rw[h.1.2.2.1,h.1.2.2.2]at h4
         cases h4
       · rw[if_neg h4]
         refine⟨fun _=>⟨⟨h1,h3,?_,?_⟩,h2⟩,fun _=>rfl⟩
         · cases h:hsl p.who with
           | false=>rfl
           | true=>rw[h]at h4;exact absurd rfl h4
         · cases h:hsl p.what with
           | false=>rfl
           | true=>rw[h,Bool.or_true]at h4;exact absurd rfl h4
     · rw[if_neg h3]
       exact⟨fun h=>absurd h (by decide),fun h=>absurd h.1.2.1 h3⟩
 · rw[if_neg h1]
   exact⟨fun h=>absurd h h1,fun h=>absurd h.1.1 h1⟩
theorem auL_zero:∀ {ps:List Po} {seen:List ByteArray},auL seen ps=0↔(∀p∈ps,auOk p∧p.nm∉seen)∧(ps.map Po.nm).Nodup
 | [],seen=>⟨fun _=>⟨(fun p h=>by cases h),List.nodup_nil⟩,fun _=>rfl⟩
 | p::r,seen=>by
   unfold auL
   by_cases h:auF seen p=0
   · rw[if_pos h,auL_zero]
     have h1:=auF_zero.1 h
     rw[List.map_cons,List.nodup_cons]
     constructor
     · rintro⟨h2,h3⟩
       refine⟨fun x hx=>?_,fun hm=>?_,h3⟩
       · rcases List.mem_cons.1 hx with rfl | hx
         · exact h1
         · have:=h2 x hx
           exact⟨this.1,fun hs=>this.2 (List.mem_append_left _ hs)⟩
       · obtain⟨x,hx,e⟩:=List.mem_map.1 hm
         exact(h2 x hx).2 (List.mem_append_right _ (by rw[e];exact List.mem_singleton.2 rfl))
     · rintro⟨h2,h3,h4⟩
       refine⟨fun x hx=>⟨(h2 x (List.mem_cons_of_mem _ hx)).1,fun hs=>?_⟩,h4⟩
       rcases List.mem_append.1 hs with hs | hs
       · exact(h2 x (List.mem_cons_of_mem _ hx)).2 hs
       · rw[List.mem_singleton]at hs
         exact h3 (hs▸List.mem_map_of_mem hx)
   · rw[if_neg h]
     exact⟨fun h2=>absurd h2 h,fun h2=>absurd (auF_zero.2 (h2.1 p List.mem_cons_self)) h⟩
theorem auC_zero {ps:List Po}:auC ps=0↔ps.length≤12∧(∀p∈ps,auOk p)∧(ps.map Po.nm).Nodup:=by
 unfold auC
 by_cases h:ps.length≤12
 · rw[if_pos h,auL_zero]
   exact⟨fun h2=>⟨h,fun p hp=>(h2.1 p hp).1,h2.2⟩,fun h2=>⟨fun p hp=>⟨h2.2.1 p hp,fun hs=>by cases hs⟩,h2.2.2⟩⟩
 · rw[if_neg h]
   exact⟨fun h2=>absurd h2 (by decide),fun h2=>absurd h2.1 h⟩
theorem auC_perm {a b:List Po}(h:a.Perm b)(ha:auC a=0):auC b=0:=by
 obtain⟨h1,h2,h3⟩:=auC_zero.1 ha
 exact auC_zero.2 ⟨by rw[←h.length_eq];exact h1,fun p hp=>h2 p (h.mem_iff.2 hp),(h.map Po.nm).nodup_iff.1 h3⟩
theorem auC_sub {a b:List Po}(h:b.Sublist a)(ha:auC a=0):auC b=0:=by
 obtain⟨h1,h2,h3⟩:=auC_zero.1 ha
 exact auC_zero.2 ⟨Nat.le_trans h.length_le h1,fun p hp=>h2 p (h.subset hp),(h.map Po.nm).nodup h3⟩
noncomputable def auV (es:List En) (q:Rq) (p:Po):Int:=match pvL es q p with
 | .ok true=>1
 | .ok false=>0
 | .error _=> -1
theorem auV_nm (es:List En)(q:Rq)(p:Po)(s:ByteArray)(b:Bool):auV es q ⟨s,b,p.who,p.act,p.what,p.cs⟩=auV es q p:=rfl
section
variable (f:Po→Int)
def auB (b:Bool)(ps:List Po):List ByteArray:=(ps.filter (fun p=>decide (p.fb=b) && decide (f p=1))).map Po.nm
def auBy (ps:List Po):List ByteArray:=if (auB f true ps).isEmpty=true then auB f false ps else auB f true ps
def auW (ps:List Po):List ByteArray:=(ps.filter (fun p=>decide (f p= -1))).map Po.nm
def auAl (ps:List Po):Bool:=(auB f true ps).isEmpty && !(auB f false ps).isEmpty
variable {f}
theorem auB_mem {b:Bool}{ps:List Po}{s:ByteArray}:s∈auB f b ps↔∃p∈ps,p.fb=b∧f p=1∧p.nm=s:=by
 unfold auB
 rw[List.mem_map]
 constructor
 · rintro⟨p,hp,e⟩
   obtain⟨h1,h2⟩:=List.mem_filter.1 hp
   simp only[Bool.and_eq_true,decide_eq_true_iff]at h2
   exact⟨p,h1,h2.1,h2.2,e⟩
 · rintro⟨p,h1,h2,h3,e⟩
   exact⟨p,List.mem_filter.2 ⟨h1,by simp[h2,h3]⟩,e⟩
theorem auW_mem {ps:List Po}{s:ByteArray}:s∈auW f ps↔∃p∈ps,f p= -1∧p.nm=s:=by
 unfold auW
 rw[List.mem_map]
 constructor
 · rintro⟨p,hp,e⟩
   obtain⟨h1,h2⟩:=List.mem_filter.1 hp
   exact⟨p,h1,by simpa using h2,e⟩
 · rintro⟨p,h1,h2,e⟩
   exact⟨p,List.mem_filter.2 ⟨h1,by simp[h2]⟩,e⟩
theorem isE_iff {l:List ByteArray}:l.isEmpty=true↔∀s,s∉l:=by
 cases l with
 | nil=>simp
 | cons a r=>simp only[List.isEmpty_cons,Bool.false_eq_true,false_iff];exact fun h=>h a List.mem_cons_self
theorem auB_no {b:Bool}{ps:List Po}:(auB f b ps).isEmpty=true↔∀p∈ps,¬(p.fb=b∧f p=1):=by
 rw[isE_iff]
 exact⟨fun h p hp hx=>h _ (auB_mem.2 ⟨p,hp,hx.1,hx.2,rfl⟩),fun h s hs=>by obtain⟨p,hp,h1,h2,_⟩:=auB_mem.1 hs;exact h p hp ⟨h1,h2⟩⟩
theorem auAl_iff {ps:List Po}:auAl f ps=true↔(∀p∈ps,¬(p.fb=true∧f p=1))∧∃p∈ps,p.fb=false∧f p=1:=by
 unfold auAl
 rw[Bool.and_eq_true,auB_no]
 refine and_congr_right (fun _=>?_)
 cases h:(auB f false ps).isEmpty with
 | true=>
   have:=auB_no.1 h
   exact⟨(fun h2=>by cases h2),(fun⟨p,hp,hx⟩=>absurd hx (this p hp))⟩
 | false=>
   refine⟨fun _=>?_,fun _=>rfl⟩
   cases hl:auB f false ps with
   | nil=>rw[hl]at h;cases h
   | cons a r=>
     obtain⟨p,hp,h1,h2,_⟩:=auB_mem.1 (show a∈auB f false ps by rw[hl];exact List.mem_cons_self)
     exact⟨p,hp,h1,h2⟩
theorem auW_len {ps:List Po}:(auW f ps).length≤ps.length:=by
 unfold auW
 rw[List.length_map]
 exact List.length_filter_le _ _
theorem auB_len {b:Bool}{ps:List Po}:(auB f b ps).length≤ps.length:=by
 unfold auB
 rw[List.length_map]
 exact List.length_filter_le _ _
theorem auBy_len {ps:List Po}:(auBy f ps).length≤ps.length:=by
 unfold auBy auB
 split<;>(rw[List.length_map];exact List.length_filter_le _ _)
theorem nm_inj {ps:List Po}(h:(ps.map Po.nm).Nodup){p r:Po}(hp:p∈ps)(hr:r∈ps)(e:p.nm=r.nm):p=r:=by
 induction ps with
 | nil=>cases hp
 | cons a l ih=>
   rw[List.map_cons,List.nodup_cons]at h
   rcases List.mem_cons.1 hp with hp2 | hp2
   · rcases List.mem_cons.1 hr with hr2 | hr2
     · rw[hp2,hr2]
     · exact absurd (List.mem_map.2 ⟨r,hr2,by rw[←e,hp2]⟩) h.1
   · rcases List.mem_cons.1 hr with hr2 | hr2
     · exact absurd (List.mem_map.2 ⟨p,hp2,by rw[e,hr2]⟩) h.1
     · exact ih h.2 hp2 hr2
theorem auW_nm {ps:List Po}(h:(ps.map Po.nm).Nodup){p:Po}(hp:p∈ps):p.nm∈auW f ps↔f p= -1:=by
 rw[auW_mem]
 exact⟨fun⟨r,hr,h1,e⟩=>by rw[←nm_inj h hr hp e];exact h1,fun h1=>⟨p,hp,h1,rfl⟩⟩
theorem auBy_mem {ps:List Po}{s:ByteArray}(h:s∈auBy f ps):∃p∈ps,f p=1∧p.nm=s:=by
 unfold auBy at h
 split at h
 · obtain⟨p,hp,_,h1,e⟩:=auB_mem.1 h;exact⟨p,hp,h1,e⟩
 · obtain⟨p,hp,_,h1,e⟩:=auB_mem.1 h;exact⟨p,hp,h1,e⟩
theorem auBy_nm {ps:List Po}(h:(ps.map Po.nm).Nodup){p:Po}(hp:p∈ps)(hm:p.nm∈auBy f ps):f p=1:=by
 obtain⟨r,hr,h1,e⟩:=auBy_mem hm
 rw[←nm_inj h hr hp e];exact h1
theorem auBy_no {ps:List Po}:(auBy f ps).isEmpty=true↔∀p∈ps,f p≠1:=by
 unfold auBy
 by_cases h:(auB f true ps).isEmpty=true
 · rw[if_pos h,auB_no]
   have h2:=auB_no.1 h
   exact⟨fun h3 p hp hx=>by cases hb:p.fb with
    | true=>exact h2 p hp ⟨hb,hx⟩
    | false=>exact h3 p hp ⟨hb,hx⟩,fun h3 p hp hx=>h3 p hp hx.2⟩
 · rw[if_neg h]
   refine⟨fun h2=>absurd h2 h,fun h2=>absurd (auB_no.2 fun p hp hx=>h2 p hp hx.2) h⟩
theorem auB_perm {a b:List Po}(h:a.Perm b)(k:Bool):(auB f k a).Perm (auB f k b):=(h.filter _).map _
theorem auW_perm {a b:List Po}(h:a.Perm b):(auW f a).Perm (auW f b):=(h.filter _).map _
theorem isE_perm {a b:List ByteArray}(h:a.Perm b):a.isEmpty=b.isEmpty:=by
 rw[Bool.eq_iff_iff,isE_iff,isE_iff]
 exact⟨fun k s hs=>k s (h.mem_iff.2 hs),fun k s hs=>k s (h.mem_iff.1 hs)⟩
theorem auAl_perm {a b:List Po}(h:a.Perm b):auAl f a=auAl f b:=by
 unfold auAl
 rw[isE_perm (auB_perm h true),isE_perm (auB_perm h false)]
theorem auBy_perm {a b:List Po}(h:a.Perm b):(auBy f a).Perm (auBy f b):=by
 unfold auBy
 rw[isE_perm (auB_perm h true)]
 split
 · exact auB_perm h false
 · exact auB_perm h true
theorem auAl_more {ps:List Po}{p:Po}:(p.fb=true→auAl f (ps++[p])=true→auAl f ps=true)∧(p.fb=false→auAl f ps=true→auAl f (ps++[p])=true):=by
 constructor
 · intro hb h
   obtain⟨h1,r,hr,h2,h3⟩:=auAl_iff.1 h
   refine auAl_iff.2 ⟨fun x hx=>h1 x (List.mem_append_left _ hx),?_⟩
   rcases List.mem_append.1 hr with hr | hr
   · exact⟨r,hr,h2,h3⟩
   · rw[List.mem_singleton]at hr;subst hr;rw[hb]at h2;cases h2
 · intro hb h
   obtain⟨h1,r,hr,h2,h3⟩:=auAl_iff.1 h
   refine auAl_iff.2 ⟨fun x hx hy=>?_,r,List.mem_append_left _ hr,h2,h3⟩
   rcases List.mem_append.1 hx with hx | hx
   · exact h1 x hx hy
   · rw[List.mem_singleton]at hx;subst hx;rw[hb]at hy;cases hy.1
theorem au_one (p:Po):auBy f [p]=(if f p=1 then[p.nm]else[])∧auW f [p]=(if f p= -1 then[p.nm]else[])∧auAl f [p]=(decide (f p=1) && !p.fb):=by
 unfold auBy auW auAl auB
 by_cases h:f p=1
 · cases hb:p.fb<;>simp[h,hb]
 · by_cases h2:f p= -1<;>cases hb:p.fb<;>simp[h,h2,hb]
theorem auBy_iff {ps:List Po}(h:(ps.map Po.nm).Nodup){p:Po}(hp:p∈ps):p.nm∈auBy f ps↔f p=1∧(p.fb=true∨∀x∈ps,¬(x.fb=true∧f x=1)):=by
 unfold auBy
 have hb:∀b,p.nm∈auB f b ps↔p.fb=b∧f p=1:=fun b=>by
  rw[auB_mem]
  exact⟨fun⟨r,hr,h1,h2,e⟩=>by rw[←nm_inj h hr hp e];exact⟨h1,h2⟩,fun⟨h1,h2⟩=>⟨p,hp,h1,h2,rfl⟩⟩
 by_cases he:(auB f true ps).isEmpty=true
 · have hn:=auB_no.1 he
   rw[if_pos he,hb]
   refine⟨fun h1=>⟨h1.2,.inr hn⟩,fun h1=>⟨?_,h1.1⟩⟩
   cases hf:p.fb with
   | false=>rfl
   | true=>exact absurd ⟨hf,h1.1⟩ (hn p hp)
 · rw[if_neg he,hb]
   refine⟨fun h1=>⟨h1.2,.inl h1.1⟩,fun h1=>⟨?_,h1.1⟩⟩
   rcases h1.2 with h2 | h2
   · exact h2
   · exact absurd (auB_no.2 h2) he
theorem au_copy {ps:List Po}{p r:Po}(hp:p∈ps)(hb:r.fb=p.fb)(hf:f r=f p)(h1:(ps.map Po.nm).Nodup)(h2:((ps++[r]).map Po.nm).Nodup):
 auAl f ps=auAl f (ps++[r])∧(p.nm∈auBy f ps↔r.nm∈auBy f (ps++[r]))∧(p.nm∈auW f ps↔r.nm∈auW f (ps++[r])):=by
 have hr:r∈ps++[r]:=List.mem_append_right _ (List.mem_singleton.2 rfl)
 have hall:∀b:Bool,(∀x∈ps++[r],¬(x.fb=b∧f x=1))↔∀x∈ps,¬(x.fb=b∧f x=1):=fun b=>by
  refine⟨fun h x hx=>h x (List.mem_append_left _ hx),fun h x hx=>?_⟩
  rcases List.mem_append.1 hx with hx | hx
  · exact h x hx
  · rw[List.mem_singleton.1 hx,hb,hf];exact h p hp
 refine⟨?_,?_,?_⟩
 · rw[Bool.eq_iff_iff,auAl_iff,auAl_iff,hall true]
   refine and_congr_right (fun _=>?_)
   refine⟨fun⟨x,hx,h3⟩=>⟨x,List.mem_append_left _ hx,h3⟩,fun⟨x,hx,h3⟩=>?_⟩
   rcases List.mem_append.1 hx with hx | hx
   · exact⟨x,hx,h3⟩
   · rw[List.mem_singleton.1 hx,hb,hf]at h3;exact⟨p,hp,h3⟩
 · rw[auBy_iff h1 hp,auBy_iff h2 hr,hf,hb,hall true]
 · rw[auW_nm h1 hp,auW_nm h2 hr,hf]
theorem auB_append (b:Bool)(a c:List Po):auB f b (a++c)=auB f b a++auB f b c:=by unfold auB;rw[List.filter_append,List.map_append]
theorem auW_append (a c:List Po):auW f (a++c)=auW f a++auW f c:=by unfold auW;rw[List.filter_append,List.map_append]
theorem au_apart {ps:List Po}(h:(ps.map Po.nm).Nodup):let some:=ps.filter (fun p=>(auBy f ps).any (fun s=>decide (s=p.nm)));auBy f some=auBy f ps∧auAl f some=auAl f ps∧auW f some=[]:=by
 intro some
 have hs:∀p,p∈some↔p∈ps∧p.nm∈auBy f ps:=fun p=>by
  show p∈ps.filter _↔_
  rw[List.mem_filter,any_nm]
 have h1:∀p∈some,f p=1:=fun p hp=>auBy_nm h ((hs p).1 hp).1 ((hs p).1 hp).2
 have hW:auW f some=[]:=by
  unfold auW
  rw[List.filter_eq_nil_iff.2 (fun p hp=>by have:=h1 p hp;simp[this])]
  rfl
 have key:∀b,(∀p∈ps,p.fb=b→f p=1→p.nm∈auBy f ps)→auB f b some=auB f b ps:=fun b hb=>by
  show((ps.filter _).filter _).map _=_
  unfold auB
  rw[List.filter_filter]
  congr 1
  refine List.filter_congr (fun p hp=>?_)
  rw[Bool.eq_iff_iff]
  rw[Bool.and_eq_true,any_nm]
  simp only[Bool.and_eq_true,decide_eq_true_iff]
  exact⟨fun hx=>hx.1,fun hx=>⟨hx,hb p hp hx.1 hx.2⟩⟩
 by_cases ht:(auB f true ps).isEmpty=true
 · have hby:auBy f ps=auB f false ps:=by unfold auBy;rw[if_pos ht]
   have e2:=key false (fun p hp h2 h3=>by rw[hby];exact auB_mem.2 ⟨p,hp,h2,h3,rfl⟩)
   have e1:auB f true some=auB f true ps:=by
    have h3:(auB f true some).isEmpty=true:=auB_no.2 (fun p hp hx=>auB_no.1 ht p ((hs p).1 hp).1 hx)
    rw[List.isEmpty_iff.1 h3,List.isEmpty_iff.1 ht]
   refine⟨?_,?_,hW⟩
   · unfold auBy;rw[e1,e2]
   · unfold auAl;rw[e1,e2]
 · have hby:auBy f ps=auB f true ps:=by unfold auBy;rw[if_neg ht]
   have e1:=key true (fun p hp h2 h3=>by rw[hby];exact auB_mem.2 ⟨p,hp,h2,h3,rfl⟩)
   refine⟨?_,?_,hW⟩
   · unfold auBy;rw[e1,if_neg ht,if_neg ht]
   · unfold auAl
     rw[e1]
     cases hx:(auB f true ps).isEmpty with
     | true=>exact absurd hx ht
     | false=>rfl
end
theorem nodup_le:∀ {l m:List Nat},l.Nodup→(∀x∈l,x∈m)→l.length≤m.length
 | [],_,_,_=>Nat.zero_le _
 | a::l,m,h,hs=>by
   rw[List.nodup_cons]at h
   have hm:=hs a List.mem_cons_self
   have hp:=List.perm_cons_erase hm
   have:=nodup_le (m:=m.erase a) h.2 (fun x hx=>by
    have hx2:=hp.mem_iff.1 (hs x (List.mem_cons_of_mem _ hx))
    rcases List.mem_cons.1 hx2 with rfl | hx2
    · exact absurd hx h.1
    · exact hx2)
   have hl:=hp.length_eq
   simp only[List.length_cons]at hl ⊢
   omega
theorem perm_range {l:List Nat}{n:Nat}(h:l.Nodup)(hl:l.length=n)(hb:∀x∈l,x<n):l.Perm (List.range n):=by
 refine(List.perm_ext_iff_of_nodup h List.nodup_range).2 (fun a=>⟨fun ha=>List.mem_range.2 (hb a ha),fun ha=>?_⟩)
 rw[List.mem_range]at ha
 apply Classical.byContradiction
 intro hn
 have:=nodup_le (l:=a::l) (m:=List.range n) (List.nodup_cons.2 ⟨hn,h⟩) (fun x hx=>by
  rcases List.mem_cons.1 hx with rfl | hx
  · exact List.mem_range.2 ha
  · exact List.mem_range.2 (hb x hx))
 rw[List.length_range,List.length_cons,hl]at this
 omega
end Go.Proofs.YtlnhaajjoplafaaGreatDoor
namespace Go.Proofs.YtlnhaajjoplafaaGreatDoor
open Go.RowKit
set_option maxRecDepth 100000
theorem aqt {a b c:World}(h:Below a.heap.size a b)(k:Below b.heap.size b c):Below a.heap.size a c:=h.trans (k.mono h.size)
def reqV (q:Rq)(pq:Option Addr)(cq:Nat):Value:=.agg #[.string q.who.t,.string q.who.i,.string q.act.t,.string q.act.i,.string q.what.t,.string q.what.i,.slice pq q.cx.length cq]
def uAt (q:Rq):Nat→Ui
 | 0=>q.who | 1=>q.act | _=>q.what
structure RqArg (w:World)(q:Rq)(pq:Option Addr)(cq:Nat):Prop where
 u0:UOk q.who
 u1:UOk q.act
 u2:UOk q.what
 nl:NL w pq q.cx
 le:q.cx.length≤cq
 cm:cq≤maxLen
theorem ask_any (q:Rq)(pq:Option Addr)(cq:Nat)(w:World)(h:RqArg w q pq cq):
 Calls Tryz.prog 16 #[reqV q pq cq] w fun e w'=>e= .returned (eV (askf q))∧Below w.heap.size w w':=by
 unfold reqV
 have hAsk:∀j,j≤2→(∀l,l<j→uf (uAt q l)=0)→uf (uAt q j)≠0→askf q=uf (uAt q j):=by
  intro j hj hz hn
  unfold askf
  match j,hj with
  | 0,_=>
    have n0:uf q.who≠0:=hn
    rw[if_neg n0];rfl
  | 1,_=>
    have z0:uf q.who=0:=hz 0 (by omega)
    have n0:uf q.act≠0:=hn
    rw[if_pos z0,if_neg n0];rfl
  | 2,_=>
    have z0:uf q.who=0:=hz 0 (by omega)
    have z1:uf q.act=0:=hz 1 (by omega)
    have n0:uf q.what≠0:=hn
    rw[if_pos z0,if_pos z1,if_neg n0];rfl
 have hAll:(∀l,l<3→uf (uAt q l)=0)→askf q=afault q.cx:=by
  intro hz
  have z0:uf q.who=0:=hz 0 (by omega)
  have z1:uf q.act=0:=hz 1 (by omega)
  have z2:uf q.what=0:=hz 2 (by omega)
  unfold askf
  rw[if_pos z0,if_pos z1,if_pos z2]
 have hok:∀j,UOk (uAt q j):=fun j=>by
  match j with
  | 0=>exact h.u0
  | 1=>exact h.u1
  | _+2=>exact h.u2
 have hbW:Below w.heap.size w ((w.alloc (.cells #[.string q.who.t,.string q.who.i,.string q.act.t,.string q.act.i,.string q.what.t,.string q.what.i,.slice pq q.cx.length cq] 32)).alloc (.cells #[.string q.who.t,.string q.who.i,.string q.act.t,.string q.act.i,.string q.what.t,.string q.what.i] 24)):=((Below.refl _ _).alloc (Nat.le_refl _) _).alloc (by simp) _
 have hsW:((w.alloc (.cells #[.string q.who.t,.string q.who.i,.string q.act.t,.string q.act.i,.string q.what.t,.string q.what.i,.slice pq q.cx.length cq] 32)).alloc (.cells #[.string q.who.t,.string q.who.i,.string q.act.t,.string q.act.i,.string q.what.t,.string q.what.i] 24)).heap.size=w.heap.size+2:=by simp
 have hcW:∀j,j≤2→((w.alloc (.cells #[.string q.who.t,.string q.who.i,.string q.act.t,.string q.act.i,.string q.what.t,.string q.what.i,.slice pq q.cx.length cq] 32)).alloc (.cells #[.string q.who.t,.string q.who.i,.string q.act.t,.string q.act.i,.string q.what.t,.string q.what.i] 24)).cell? ⟨w.heap.size+1,j*2,none⟩=some (.string (uAt q j).t)∧((w.alloc (.cells #[.string q.who.t,.string q.who.i,.string q.act.t,.string q.act.i,.string q.what.t,.string q.what.i,.slice pq q.cx.length cq] 32)).alloc (.cells #[.string q.who.t,.string q.who.i,.string q.act.t,.string q.act.i,.string q.what.t,.string q.what.i] 24)).cell? ⟨w.heap.size+1,j*2+1,none⟩=some (.string (uAt q j).i):=by
  intro j hj
  have e:∀o,((w.alloc (.cells #[.string q.who.t,.string q.who.i,.string q.act.t,.string q.act.i,.string q.what.t,.string q.what.i,.slice pq q.cx.length cq] 32)).alloc (.cells #[.string q.who.t,.string q.who.i,.string q.act.t,.string q.act.i,.string q.what.t,.string q.what.i] 24)).cell? ⟨w.heap.size+1,o,none⟩=(#[.string q.who.t,.string q.who.i,.string q.act.t,.string q.act.i,.string q.what.t,.string q.what.i]:Array Value)[o]? :=fun o=>World.cell?_alloc_at _ _ _ o (by simp)
  rw[e,e]
  match j,hj with
  | 0,_=>exact⟨rfl,rfl⟩
  | 1,_=>exact⟨rfl,rfl⟩
  | 2,_=>exact⟨rfl,rfl⟩
 have hqW:((w.alloc (.cells #[.string q.who.t,.string q.who.i,.string q.act.t,.string q.act.i,.string q.what.t,.string q.what.i,.slice pq q.cx.length cq] 32)).alloc (.cells #[.string q.who.t,.string q.who.i,.string q.act.t,.string q.act.i,.string q.what.t,.string q.what.i] 24)).cell? ⟨w.heap.size,6,none⟩=some (.slice pq q.cx.length cq):=by simp
 have hn0:=h.nl
 have hle:=h.le
 have hcm:=h.cm
 clear h
 go_enter Tryz.func16,Tryz.ntmps16
 go_wp2_with fail
 generalize (w.alloc (.cells #[.string q.who.t,.string q.who.i,.string q.act.t,.string q.act.i,.string q.what.t,.string q.what.i,.slice pq q.cx.length cq] 32)).alloc (.cells #[.string q.who.t,.string q.who.i,.string q.act.t,.string q.act.i,.string q.what.t,.string q.what.i] 24)=W at *
 go_loopw [16] (fun i wr=>∃j:Nat,j≤3∧i= .int .i64 j∧Hid (∀l,l<j→uf (uAt q l)=0)∧Below W.heap.size W wr) (fun i _=>3-(intOf i).toNat)
 case atStart=>exact⟨0,Nat.zero_le _,rfl,fun l hl=>absurd hl (by omega),Below.refl _ _⟩
 case round=>
  rename World=>wr
  obtain⟨j,hj,rfl,HZ,hbr⟩:=hrel
  by_cases hlt:j<3
  · have i1:(j:Int)<3:=by omega
    obtain⟨c0,c1⟩:=hcW j (by omega)
    have y0:=(hbr.cell (p:=⟨w.heap.size+1,j*2,none⟩) (by show w.heap.size+1<_;omega)).trans c0
    have y1:=(hbr.cell (p:=⟨w.heap.size+1,j*2+1,none⟩) (by show w.heap.size+1<_;omega)).trans c1
    have HW:=fun w1=>write_any (uAt q j).t (uAt q j).i w1 (hok j).1 (hok j).2
    have hbx:Below wr.heap.size wr (wr.alloc (.cells #[.string (uAt q j).t,.string (uAt q j).i] 24)):=(Below.refl _ _).alloc (Nat.le_refl _) _
    have eU:ufault (uAt q j).t.data.toList (uAt q j).i.data.toList=uf (uAt q j):=rfl
    rw[eU]at HW
    clear c0 c1 eU
    by_cases hu:uf (uAt q j)=0
    · rw[eV_nil hu]at HW
      have HZ2:Hid (∀l,l<j+1→uf (uAt q l)=0):=fun l hl=>by
       by_cases e:l=j
       · rw[e];exact hu
       · exact HZ.out l (by omega)
      clear hu HZ
      generalize uAt q j=u at *
      obtain⟨ut,ui⟩:=u
      go_wp2_with (go_at_call 27;refine(HW _).mono ?_;rintro e w1 ⟨t1,rfl,hb1⟩)
      go_roundw
      case rel=>exact⟨j+1,by omega,by go_num,HZ2,hbr.trans ((hbx.trans (hb1.mono hbx.size)).mono hbr.size)⟩
      case measure=>simp[intOf];omega
    · rw[eV_not hu]at HW
      have HA2:Hid (askf q=uf (uAt q j)):=hAsk j (by omega) HZ.out hu
      have HU:Hid (uf (uAt q j)≠0):=hu
      clear hu HZ
      generalize hn:uf (uAt q j)=n at *
      clear hn
      generalize uAt q j=u at *
      obtain⟨ut,ui⟩:=u
      go_wp2_with (go_at_call 27;refine(HW _).mono ?_;rintro e w1 ⟨t1,rfl,hb1⟩)
      go_ret
      rw[HA2.out,eV_not HU.out]
      exact⟨rfl,aqt hbW (hbr.trans ((hbx.trans (hb1.mono hbx.size)).mono hbr.size))⟩
  · have i1:¬(j:Int)<3:=by omega
    obtain rfl:j=3:=by omega
    have HA2:Hid (askf q=afault q.cx):=hAll HZ.out
    have y6:=(hbr.cell (p:=⟨w.heap.size,6,none⟩) (by show w.heap.size<_;omega)).trans hqW
    have hbw:=aqt hbW hbr
    have HC:=vcheck_any q.cx pq cq wr (hn0.up hbw) hle hcm
    by_cases hv:vfault q.cx=0
    · rw[eV_nil hv]at HC
      obtain⟨x,r,ex,_⟩:=value_head hv
      have hnr:=hn0.up hbw
      obtain⟨b,off,rfl,hbb,x0,hrest⟩:=hnr.at (i:=0) (by rw[ex];simp)
      clear hrest
      simp only[Nat.zero_mul,Nat.add_zero]at x0
      have hx0:q.cx[0]'(by rw[ex];simp)=x:=by simp[ex]
      rw[hx0]at x0
      have i2:(0:Int)<(q.cx.length:Int):=by rw[ex];simp
      have HF:Hid (afault q.cx=if x.op=6 then 0 else 2):=by show _=_;unfold afault;rw[if_pos hv,ex]
      by_cases h6:x.op=6
      · have e6:(x.op != 6)=false:=by simpa using h6
        have HE:Hid (eV (askf q)= .nilIface):=by show _=_;rw[HA2.out,HF.out,if_pos h6];rfl
        clear hv h6 ex hx0 HF HA2
        go_wp2_with fail
        refine HC.mono ?_
        rintro e w1 ⟨rfl,hb1⟩
        have z0:=(hb1.cell (p:=⟨b,off,none⟩) hbb).trans x0
        have z6:=(hb1.cell (p:=⟨w.heap.size,6,none⟩) (by have:=hbr.size;show w.heap.size<_;omega)).trans y6
        go_wp2
        go_ret
        rw[HE.out]
        exact⟨rfl,aqt hbw hb1⟩
      · have e6:(x.op != 6)=true:=by simpa using h6
        have HE:Hid (eV (askf q)= .iface 70 (.int .i64 2)):=by show _=_;rw[HA2.out,HF.out,if_neg h6];rfl
        clear hv h6 ex hx0 HF HA2
        go_wp2_with fail
        refine HC.mono ?_
        rintro e w1 ⟨rfl,hb1⟩
        have z0:=(hb1.cell (p:=⟨b,off,none⟩) hbb).trans x0
        have z6:=(hb1.cell (p:=⟨w.heap.size,6,none⟩) (by have:=hbr.size;show w.heap.size<_;omega)).trans y6
        go_wp2
        go_ret
        rw[HE.out]
        exact⟨rfl,aqt hbw hb1⟩
    · rw[eV_not hv]at HC
      have HF:Hid (eV (askf q)= .iface 70 (.int .i64 (vfault q.cx))):=by
       show _=_
       rw[HA2.out]
       unfold afault
       rw[if_neg hv,eV_not hv]
      clear hv HA2
      generalize vfault q.cx=n at *
      go_wp2_with fail
      refine HC.mono ?_
      rintro e w1 ⟨rfl,hb1⟩
      go_wp2
      go_ret
      rw[HF.out]
      exact⟨rfl,aqt hbw hb1⟩
theorem parts_bad (v:List Nd)(p:Option Addr)(c:Nat)(w:World)(hv:NL w p v)(hc:v.length≤c)(hcm:c≤maxLen)(h:vfault v≠0):
 Calls Tryz.prog 138 #[.slice p v.length c] w fun e w'=>e= .returned (.tuple #[.slice none 0 0,eV (vfault v)])∧Below w.heap.size w w':=by
 have H1:=vcheck_any v p c w hv hc hcm
 rw[eV_not h]at H1 ⊢
 go_enter Tryz.func138,Tryz.ntmps138
 go_wp2_with fail
 refine H1.mono ?_
 rintro e w1 ⟨rfl,hb1⟩
 go_wp2
 go_ret2
 exact⟨rfl,hb1⟩
theorem parts_type (x:Nd)(r:List Nd)(b off c:Nat)(w:World)(hv:NL w (some ⟨b,off,none⟩) (x::r))(hc:(x::r).length≤c)(hcm:c≤maxLen)(h:vfault (x::r)=0)(h5:x.op≠5)(h6:x.op≠6):
 Calls Tryz.prog 138 #[.slice (some ⟨b,off,none⟩) (x::r).length c] w fun e w'=>e= .returned (.tuple #[.slice none 0 0,eV 2])∧Below w.heap.size w w':=by
 have H1:=vcheck_any (x::r) _ c w hv hc hcm
 rw[eV_nil h]at H1
 obtain⟨b',o',hpe,hbw,x0,_⟩:=hv.head
 obtain⟨rfl,rfl⟩:b=b'∧off=o':=by simpa using hpe
 have e5:(x.op != 5)=true:=by simpa using h5
 have e6:(x.op != 6)=true:=by simpa using h6
 unfold maxLen at hcm
 have i0:(0:Int)<((x::r).length:Int):=by simp
 clear h hpe
 simp only[List.length_cons]at *
 go_enter Tryz.func138,Tryz.ntmps138
 go_wp2_with fail
 refine H1.mono ?_
 rintro e w1 ⟨rfl,hb1⟩
 have z0:=(hb1.cell (p:=⟨b,off,none⟩) hbw).trans x0
 clear x0
 go_wp2
 go_ret2
 exact⟨rfl,hb1⟩
theorem strip_len (s:List Nd):(strip s).length≤s.length:=by
 cases s with
 | nil=>simp[strip]
 | cons x s=>show(if x.op=7 then s else x::s).length≤_;split<;>simp
theorem OL.none0 {w:World}{base:Nat}{q:Option Addr}{n c:Nat}{vs:List (List Nd)}(h:OL w base (.slice q n c) vs):q=none→c=0:=by
 obtain⟨xs,hr,_⟩:=h
 rcases hr.2 with⟨e,_⟩ | ⟨g,cap,cur,e,_⟩
 · cases e;intro _;rfl
 · cases e;intro h;cases h
set_option maxRecDepth 100000 in
theorem parts_full (f:Nat)(x:Nd)(r:List Nd)(ss:List (List Nd))(hss:Segs f r ss)(b off c:Nat)(w:World)(hv:NL w (some ⟨b,off,none⟩) (x::r))(hc:(x::r).length≤c)(hcm:c≤maxLen)(h:vfault (x::r)=0)(h56:x.op=5∨x.op=6):
 Calls Tryz.prog 138 #[.slice (some ⟨b,off,none⟩) (x::r).length c] w fun e w'=>(∃q c',e= .returned (.tuple #[.slice q ss.length c',.nilIface])∧LL w' q (ss.map strip)∧ss.length≤c'∧c'≤maxLen∧(q=none→c'=0))∧Below w.heap.size w w':=by
 have H1:=vcheck_any (x::r) _ c w hv hc hcm
 rw[eV_nil h]at H1
 obtain⟨hl200,_⟩:=isVal_past h
 obtain⟨b',o',hpe,hbw,x0,_⟩:=hv.head
 obtain⟨rfl,rfl⟩:b=b'∧off=o':=by simpa using hpe
 have hsl:=hss.length
 have hne:=hss.ne
 have hsh:=hss.short
 have hit:=fun w' (hb:Below w.heap.size w w')=>items_fn f x r ss hss b off c w' (hv.up hb) (Nat.lt_of_lt_of_le hbw hb.size) hl200 hc hcm
 have HM:Hid (c≤maxLen):=hcm
 unfold maxLen at hcm
 have i0:(0:Int)<((x::r).length:Int):=by simp
 have HNE:Hid (∀s∈ss,s≠[]):=hne
 have HSH:Hid (∀s∈ss,s.length≤r.length):=hsh
 clear h hpe hss hne hsh
 simp only[List.length_cons]at *
 have htest:(x.op != 5)=false∨((x.op != 5)=true∧(x.op != 6)=false):=by
  rcases h56 with e | e<;>simp[e]
 clear h56
 go_enter Tryz.func138,Tryz.ntmps138
 go_wp2_with fail
 refine H1.mono ?_
 rintro e w1 ⟨rfl,hb1⟩
 have z0:=(hb1.cell (p:=⟨b,off,none⟩) hbw).trans x0
 have hit1:=hit w1 hb1
 clear x0 hit H1
 rcases htest with e5 | ⟨e5,e6⟩
 all_goals
  go_wp2_with fail
  refine hit1.mono ?_
  rintro e w2 ⟨⟨lv,rfl,hol⟩,hb2'⟩
  have hb2:=hb1.trans (hb2'.mono hb1.size)
  obtain⟨lq,lc,rfl,hll,hlc,hlm⟩:=hol.lists
  clear hit1 hol hb2'
  go_wp2
  go_loopw [5,29] (fun pv i wr=>∃(k:Nat),k≤ss.length∧i= .int .i64 k∧OL wr w2.heap.size pv ((ss.take k).map strip)∧Below w2.heap.size w2 wr) (fun _ i _=>ss.length-(intOf i).toNat)
  case atStart=>exact⟨0,Nat.zero_le _,rfl,OL.nil _ _,Below.refl _ _⟩
  case round=>
   obtain⟨k,hk,rfl,hol,hbr⟩:=hrel
   by_cases hlt:k<ss.length
   · obtain⟨gb,go,q,c',rfl,hgb,hcell,hnl,h1,h2⟩:=(hll.up hbr).at hlt
     have hmem:ss[k]∈ss:=List.getElem_mem _
     have hsn:=HNE.out _ hmem
     have hss2:=HSH.out _ hmem
     have i1:(k:Int)<(ss.length:Int):=by omega
     have HT:Hid ((ss.take (k+1)).map strip=(ss.take k).map strip++[strip ss[k]]):=by
      show _=_
      rw[List.take_succ_eq_append_getElem hlt,List.map_append];rfl
     generalize ss[k]=s at *
     cases s with
     | nil=>exact absurd rfl hsn
     | cons y t=>
       obtain⟨yb,yo,rfl,hyb,y0,y1,y2,y3,yw⟩:=hnl.head
       have j0:(0:Int)<(t.length:Int)+1:=by omega
       have j1:(1:Int)≤(t.length:Int)+1:=by omega
       clear hmem hsn
       have h2':c'≤9223372036854775807:=h2
       simp only[List.length_cons]at *
       have hol2:=hol
       have HO:Hid (OL wr w2.heap.size u5 ((ss.take k).map strip)):=hol2
       clear hol hol2
       have hdl:((ss.take k).map strip).length≤200:=by simp;omega
       cases e7:(y.op == 7)
       · have hclone:=cloneNodes_fn (y::t) yb yo c' wr hnl (by simp;omega)
         simp only[List.length_cons]at hclone
         rw[show strip (y::t)=y::t by unfold strip;simp only[];rw[if_neg (by simpa using e7)]]at HT
         go_wp2_with fail
         refine hclone.mono ?_
         rintro e w3 ⟨⟨q3,c3,rfl,hnt,hl3,hm3⟩,hb3⟩
         have hb4:=hbr.trans (hb3.mono hbr.size)
         have hol3:=HO.out.below hb3 hbr.size
         clear hclone HO
         go_wp2_with (at_builtin;refine append_list w3 rfl (.tmp 40) (.tmp 43) rfl w2.heap.size u5 ((ss.take k).map strip) rfl hol3 (y::t) q3 c3 hnt.any hl3 hm3 rfl (by omega) hb4.size ?_;intro v' w4 hol4 hk4)
         go_roundw
         case rel=>exact⟨k+1,by omega,by go_num,by rw[HT.out];exact hol4,hb4.trans hk4.bel⟩
         case measure=>simp[intOf];omega
       · obtain⟨pr,hpr,hnr⟩:∃pr,(if c'=1 then some (⟨yb,yo,none⟩:Addr)else some ⟨yb,yo+4,none⟩)=some ⟨yb,pr,none⟩∧NL wr (some ⟨yb,pr,none⟩) t:=by
          by_cases h:c'=1
          · exact⟨yo,if_pos h,.inl (List.eq_nil_of_length_eq_zero (by omega))⟩
          · exact⟨yo+4,if_neg h,hnl.tail⟩
         have hclone:=cloneNodes_fn t yb pr (c'-1) wr hnr (by omega)
         rw[show strip (y::t)=t by unfold strip;simp only[];rw[if_pos (by simpa using e7)]]at HT
         go_wp2_with fail
         refine hclone.mono ?_
         rintro e w3 ⟨⟨q3,c3,rfl,hnt,hl3,hm3⟩,hb3⟩
         have hb4:=hbr.trans (hb3.mono hbr.size)
         have hol3:=HO.out.below hb3 hbr.size
         clear hclone HO
         go_wp2_with (at_builtin;refine append_list w3 rfl (.tmp 40) (.tmp 43) rfl w2.heap.size u5 ((ss.take k).map strip) rfl hol3 t q3 c3 hnt.any hl3 hm3 rfl (by omega) hb4.size ?_;intro v' w4 hol4 hk4)
         go_roundw
         case rel=>exact⟨k+1,by omega,by go_num,by rw[HT.out];exact hol4,hb4.trans hk4.bel⟩
         case measure=>simp[intOf];omega
   · have HE:Hid ((ss.take k).map strip=ss.map strip):=by show _=_;rw[List.take_of_length_le (by omega)]
     have i1:¬(k:Int)<(ss.length:Int):=by omega
     obtain⟨pq,pc,rfl,hpl,hpc,hpm⟩:=hol.lists
     have hpn:=hol.none0
     rw[HE.out]at hpl hpc ⊢
     go_wp2
     go_ret2
     exact⟨⟨pq,pc,by simp,hpl,by simpa using hpc,hpm,hpn⟩,hb2.trans (hbr.mono hb2.size)⟩
theorem parts_ok (f:Nat)(x:Nd)(r:List Nd)(ss:List (List Nd))(hss:Segs f r ss)(b off c:Nat)(w:World)(hv:NL w (some ⟨b,off,none⟩) (x::r))(hc:(x::r).length≤c)(hcm:c≤maxLen)(h:vfault (x::r)=0)(h56:x.op=5∨x.op=6):
 Calls Tryz.prog 138 #[.slice (some ⟨b,off,none⟩) (x::r).length c] w fun e w'=>(∃q c',e= .returned (.tuple #[.slice q ss.length c',.nilIface])∧LL w' q (ss.map strip)∧ss.length≤c'∧c'≤maxLen)∧Below w.heap.size w w':=
 (parts_full f x r ss hss b off c w hv hc hcm h h56).mono fun e w' ⟨⟨q,c',h1,h2,h3,h4,_⟩,h5⟩=>⟨⟨q,c',h1,h2,h3,h4⟩,h5⟩
theorem tend_bad (v:List Nd)(p:Option Addr)(c:Nat)(a:Int)(w:World)(hv:NL w p v)(hl:v.length≤maxLen)(h:xfault v≠0):
 Calls Tryz.prog 124 #[.slice p v.length c,.int .i64 a] w fun e w'=>e= .returned (.tuple #[.int .i64 0,eV (xfault v)])∧Below w.heap.size w w':=by
 have hc:=tcheck_any v p c w hv hl
 rw[eV_not h]at hc ⊢
 go_enter Tryz.func124,Tryz.ntmps124
 go_wp2_with fail
 refine hc.mono ?_
 rintro e w1 ⟨rfl,hb⟩
 go_wp2
 go_ret2
 exact⟨rfl,hb⟩
theorem tend_none (v:List Nd)(p:Option Addr)(c:Nat)(a:Int)(w:World)(hv:NL w p v)(hl:v.length≤maxLen)(h:xfault v=0)(ha:a<0∨(v.length:Int)≤a):
 Calls Tryz.prog 124 #[.slice p v.length c,.int .i64 a] w fun e w'=>e= .returned (.tuple #[.int .i64 0,eV 3])∧Below w.heap.size w w':=by
 have hc:=tcheck_any v p c w hv hl
 rw[eV_nil h]at hc
 by_cases h0:a<0
 · clear ha
   go_enter Tryz.func124,Tryz.ntmps124
   go_wp2_with fail
   refine hc.mono ?_
   rintro e w1 ⟨rfl,hb⟩
   go_wp2
   go_ret2
   exact⟨rfl,hb⟩
 · have h1:(v.length:Int)≤a:=by omega
   clear ha
   go_enter Tryz.func124,Tryz.ntmps124
   go_wp2_with fail
   refine hc.mono ?_
   rintro e w1 ⟨rfl,hb⟩
   go_wp2
   go_ret2
   exact⟨rfl,hb⟩
theorem tend_field (v:List Nd)(p:Option Addr)(c k:Nat)(w:World)(hv:NL w p v)(hl:v.length≤maxLen)(h:xfault v=0)(hk:k<v.length)(h7:v[k].op=7):
 Calls Tryz.prog 124 #[.slice p v.length c,.int .i64 k] w fun e w'=>e= .returned (.tuple #[.int .i64 0,eV 2])∧Below w.heap.size w w':=by
 have hc:=tcheck_any v p c w hv hl
 rw[eV_nil h]at hc
 obtain⟨b,off,rfl,hbw,x0,x1,x2,x3,xw⟩:=hv.at hk
 generalize v[k]=x at *
 have e7:(x.op == 7)=true:=by simpa using h7
 have i1:(k:Int)<(v.length:Int):=by omega
 have i2:¬(k:Int)<0:=by omega
 clear h7
 go_enter Tryz.func124,Tryz.ntmps124
 go_wp2_with fail
 refine hc.mono ?_
 rintro e w1 ⟨rfl,hb⟩
 have z0:=(hb.cell (p:=⟨b,off+k*4,none⟩) hbw).trans x0
 clear x0 x1 x2 x3
 go_wp2
 go_ret2
 exact⟨rfl,hb⟩
theorem tend_ok (v:List Nd)(p:Option Addr)(c k:Nat)(w:World)(hv:NL w p v)(hl:v.length≤maxLen)(h:xfault v=0)(hk:k<v.length)(h7:v[k].op≠7)(r:List Nd)(hr:pastE (v.length+1) (v.drop k)=some r):
 Calls Tryz.prog 124 #[.slice p v.length c,.int .i64 k] w fun e w'=>e= .returned (.tuple #[.int .i64 ((v.length-r.length:Nat):Int),.nilIface])∧Below w.heap.size w w':=by
 have hc:=tcheck_any v p c w hv hl
 rw[eV_nil h]at hc
 have hx:=fun w1 (hb:Below w.heap.size w w1)=>pastExpr_any (v.length+1) v p c k w1 (by omega) (by omega) (hv.up hb) hl
 rw[hr]at hx
 unfold XE at hx
 simp only[]at hx
 obtain⟨b,off,rfl,hbw,x0,x1,x2,x3,xw⟩:=hv.at hk
 generalize v[k]=x at *
 generalize v.length-r.length=en at *
 have e7:(x.op == 7)=false:=by simpa using h7
 have i1:(k:Int)<(v.length:Int):=by omega
 have i2:¬(k:Int)<0:=by omega
 clear h7 hr
 go_enter Tryz.func124,Tryz.ntmps124
 go_wp2_with fail
 refine hc.mono ?_
 rintro e w1 ⟨rfl,hb⟩
 have z0:=(hb.cell (p:=⟨b,off+k*4,none⟩) hbw).trans x0
 have hx1:=hx _ hb
 clear x0 x1 x2 x3 hx
 go_wp2_with fail
 refine hx1.mono ?_
 rintro e w2 ⟨rfl,hb2⟩
 go_wp2
 go_ret2
 exact⟨rfl,hb.trans (hb2.mono hb.size)⟩
set_option maxRecDepth 100000 in
theorem equalNodes_any (a b:List Nd)(p q:Option Addr)(c1 c2:Nat)(w:World)(ha:NL w p a)(hb:NL w q b)(la:a.length≤maxLen)(lb:b.length≤maxLen):
 Calls Tryz.prog 100 #[.slice p a.length c1,.slice q b.length c2] w fun e w'=>e= .returned (.bool (sameNd a b))∧∃n,w'=w.drewN n:=by
 unfold maxLen at la lb
 by_cases hl:a.length=b.length
 · have i0:((a.length:Int) != (b.length:Int))=false:=by simp[hl]
   go_enter Tryz.func100,Tryz.ntmps100
   go_wp2
   go_loopw [13] (fun i wr=>∃k n:Nat,k≤a.length∧i= .int .i64 k∧wr=w.drewN n∧Hid (a.take k=b.take k)) (fun i _=>a.length-(intOf i).toNat)
   case atStart=>exact⟨0,0,Nat.zero_le _,rfl,rfl,rfl⟩
   case round=>
    obtain⟨k,n,hk,rfl,rfl,HD⟩:=hrel
    by_cases hlt:k<a.length
    · have hlt2:k<b.length:=by omega
      obtain⟨b1,o1,rfl,hb1,x0,x1,x2,x3,xw⟩:=ha.at hlt
      obtain⟨b2,o2,rfl,hb2,y0,y1,y2,y3,yw⟩:=hb.at hlt2
      have i1:(k:Int)<(a.length:Int):=by omega
      have i2:(k:Int)<(b.length:Int):=by omega
      have HE:Hid (a[k]=b[k]→a.take (k+1)=b.take (k+1)):=take_same hlt hlt2 HD.out
      have HF:Hid (a[k]≠b[k]→a≠b):=fun h1 h2=>h1 (by subst h2;rfl)
      generalize a[k]=x at *
      generalize b[k]=y at *
      obtain⟨xa,xb,xc,xd⟩:=x
      obtain⟨ya,yb,yc,yd⟩:=y
      simp only at x0 x1 x2 x3 y0 y1 y2 y3
      by_cases h1:xa=ya
      · subst h1
        by_cases h2:xb=yb
        · subst h2
          by_cases h3:xc=yc
          · subst h3
            by_cases h4:xd=yd
            · subst h4
              have HE2:Hid (a.take (k+1)=b.take (k+1)):=HE.out rfl
              clear HE HF
              go_wp2
              go_quiet (fail)
              go_wp2
              go_roundw
              case rel=>exact⟨k+1,_,by omega,by go_num,rfl,HE2⟩
              case measure=>simp[intOf];omega
            · have h4':¬xd.toList=yd.toList:=fun h=>h4 (bytes_inj (by simpa only[ByteArray.toList_eq]using h))
              go_wp2
              go_quiet (fail)
              go_wp2
              go_ret
              exact⟨ret_b (sameNd_no (HF.out (fun h=>h4 (by injection h)))).symm,_,by rw[World.drewN_drewN]⟩
          · have h3':¬xc.toList=yc.toList:=fun h=>h3 (bytes_inj (by simpa only[ByteArray.toList_eq]using h))
            go_wp2
            go_quiet (fail)
            go_wp2
            go_ret
            exact⟨ret_b (sameNd_no (HF.out (fun h=>h3 (by injection h)))).symm,_,by rw[World.drewN_drewN]⟩
        · go_wp2
          go_quiet (fail)
          go_wp2
          go_ret
          exact⟨ret_b (sameNd_no (HF.out (fun h=>h2 (by injection h)))).symm,_,by rw[World.drewN_drewN]⟩
      · go_wp2
        go_quiet (fail)
        go_wp2
        go_ret
        exact⟨ret_b (sameNd_no (HF.out (fun h=>h1 (by injection h)))).symm,_,by rw[World.drewN_drewN]⟩
    · have i1:¬(k:Int)<(a.length:Int):=by omega
      have HS:Hid (sameNd a b=true):=by
       show _=_
       rw[sameNd_iff]
       have:=HD.out
       rw[List.take_of_length_le (by omega),List.take_of_length_le (by omega)]at this
       exact this
      go_wp2
      go_ret
      exact⟨ret_b HS.out.symm,_,rfl⟩
 · have i0:((a.length:Int) != (b.length:Int))=true:=by simp;omega
   go_enter Tryz.func100,Tryz.ntmps100
   go_wp2
   go_ret
   exact⟨ret_b (sameNd_no (fun h=>hl (by rw[h]))).symm,0,rfl⟩
set_option maxRecDepth 100000 in
theorem cloneLists_fn (xs:List Value)(a:Addr)(c:Nat)(w:World)(hcell:∀j u,xs[j]? =some u→a.block<w.heap.size∧w.cell? (a.add j)=some u)(h1:∀u∈xs,u.oneCell'=true)(hl:xs.length≤1099511627776):
 Calls Tryz.prog 116 #[.slice (some a) xs.length c] w fun e w'=>(∃v,e= .returned v∧Row1 w' w.heap.size 30 v xs)∧Below w.heap.size w w':=by
 obtain⟨i0,hi,hz0,hz1,hz2⟩:=info_parts Tryz.infoList
 have HC:Hid (∀j u,xs[j]? =some u→a.block<w.heap.size∧w.cell? (a.add j)=some u):=hcell
 clear hcell
 have q22:∀(w:World) (a:Option Addr) (n c n' c':Nat),(binOp .eql 57 (.slice a n c) (.slice none n' c')).run Tryz.prog w= .ok (.bool a.isNone) w:=fun w a n c n' c'=>Lib.run_eql_slice_nil w _ _ a n c n' c' Tryz.underlying57
 go_enter Tryz.func116,Tryz.ntmps116
 go_wp2_with (at_builtin;refine wpList_append_own _ rfl _ _ 57 rfl w.heap.size 30 i0 _ 1 24 Tryz.underlying57 hi hz0 hz1 hz2 rfl (by decide) _ _ _ rfl (World.ownsRow_made w #[] 0 (Nat.le_refl _) (Nat.zero_le _) (by simp)) a xs.length c xs rfl ?qc1 ?qc2 ?qc3 ?qc4 ?qc5 ?qc6 ?_)
 case qc1=>simp
 case qc2=>
  intro j u hu
  obtain⟨hbw,hh⟩:=HC.out j u hu
  have hab:(a.add j).block=a.block:=by unfold Addr.add;split<;>rfl
  exact(Below.cell (p:=a.add j) ((Below.refl w.heap.size w).alloc (Nat.le_refl _) _) (by rw[hab];exact hbw)).trans hh
 case qc3=>exact h1
 case qc4=>unfold maxLen;omega
 case qc5=>omega
 case qc6=>simp
 intro v' w' h1 h2 h3
 have hbel:Below w.heap.size w w':=((Below.refl w.heap.size w).alloc (Nat.le_refl _) (.cells #[] 30)).grown h2 (by simp) (fun k hk=>by simp[Value.ownBlock]at hk;omega)
 have hrow:Row1 w' w.heap.size 30 v' xs:=by simpa[Row1]using h1
 have HR:Hid (Row1 w' w.heap.size 30 v' xs):=hrow
 clear hrow h1 h2 h3 hi hz0 hz1 hz2
 go_wp2
 go_ret
 exact⟨⟨v',rfl,HR.out⟩,hbel⟩
theorem cloneLists_nil (n c:Nat)(w:World):
 Calls Tryz.prog 116 #[.slice none n c] w fun e w'=>e= .returned (.slice none 0 0)∧w'=w:=by
 have q22:∀(w:World) (a:Option Addr) (n c n' c':Nat),(binOp .eql 57 (.slice a n c) (.slice none n' c')).run Tryz.prog w= .ok (.bool a.isNone) w:=fun w a n c n' c'=>Lib.run_eql_slice_nil w _ _ a n c n' c' Tryz.underlying57
 go_enter Tryz.func116,Tryz.ntmps116
 go_wp2
 go_ret
 exact⟨rfl,rfl⟩
theorem checkBoth_bad1 (s t:List Nd)(p q:Option Addr)(c d:Nat)(w:World)(hs:NL w p s)(hc:s.length≤c)(hcm:c≤maxLen)(h:vfault s≠0):
 Calls Tryz.prog 139 #[.slice p s.length c,.slice q t.length d] w fun e w'=>e= .returned (eV (vfault s))∧Below w.heap.size w w':=by
 have H1:=vcheck_any s p c w hs hc hcm
 rw[eV_not h]at H1 ⊢
 go_enter Tryz.func139,Tryz.ntmps139
 go_wp2_with fail
 refine H1.mono ?_
 rintro e w1 ⟨rfl,hb1⟩
 go_wp2
 go_ret
 exact⟨rfl,hb1⟩
theorem checkBoth_2 (s t:List Nd)(p q:Option Addr)(c d:Nat)(w:World)(hs:NL w p s)(hc:s.length≤c)(hcm:c≤maxLen)(ht:NL w q t)(hd:t.length≤d)(hdm:d≤maxLen)(h:vfault s=0):
 Calls Tryz.prog 139 #[.slice p s.length c,.slice q t.length d] w fun e w'=>e= .returned (eV (vfault t))∧Below w.heap.size w w':=by
 have H1:=vcheck_any s p c w hs hc hcm
 have H2:=fun w' (hb:Below w.heap.size w w')=>vcheck_any t q d w' (ht.up hb) hd hdm
 rw[eV_nil h]at H1
 go_enter Tryz.func139,Tryz.ntmps139
 go_wp2_with fail
 refine H1.mono ?_
 rintro e w1 ⟨rfl,hb1⟩
 go_wp2_with fail
 refine(H2 w1 hb1).mono ?_
 rintro e w2 ⟨rfl,hb2⟩
 go_wp2
 go_ret
 exact⟨rfl,hb1.trans (hb2.mono hb1.size)⟩
def cfault (s t:List Nd):Int:=if vfault s=0 then vfault t else vfault s
theorem checkBoth_any (s t:List Nd)(p q:Option Addr)(c d:Nat)(w:World)(hs:NL w p s)(hc:s.length≤c)(hcm:c≤maxLen)(ht:NL w q t)(hd:t.length≤d)(hdm:d≤maxLen):
 Calls Tryz.prog 139 #[.slice p s.length c,.slice q t.length d] w fun e w'=>e= .returned (eV (cfault s t))∧Below w.heap.size w w':=by
 unfold cfault
 by_cases h:vfault s=0
 · rw[if_pos h];exact checkBoth_2 s t p q c d w hs hc hcm ht hd hdm h
 · rw[if_neg h];exact checkBoth_bad1 s t p q c d w hs hc hcm h
theorem partsOf_type (s:List Nd)(p:Option Addr)(c:Nat)(w:World)(hs:NL w p s)(hc:s.length≤c)(hcm:c≤maxLen)(h:vfault s=0)(hn:isSetV s=false):
 Calls Tryz.prog 140 #[.slice p s.length c] w fun e w'=>e= .returned (.tuple #[.slice none 0 0,eV 2])∧w'=w:=by
 obtain⟨x,r,rfl,_⟩:=value_head h
 obtain⟨b,o,rfl,hbw,x0,_⟩:=hs.head
 have e5:(x.op != 5)=true:=by simpa[isSetV]using hn
 have i0:(0:Int)<((x::r).length:Int):=by simp
 unfold maxLen at hcm
 clear h hn
 simp only[List.length_cons]at *
 go_enter Tryz.func140,Tryz.ntmps140
 go_wp2
 go_ret2
 exact⟨rfl,rfl⟩
theorem parts_set (l:List (List Nd))(p:Option Addr)(c:Nat)(w:World)(hs:NL w p (setN l))(hc:(setN l).length≤c)(hcm:c≤maxLen)(h:IsSet l):
 Calls Tryz.prog 138 #[.slice p (setN l).length c] w fun e w'=>(∃q c',e= .returned (.tuple #[.slice q l.length c',.nilIface])∧LL w' q l∧l.length≤c'∧c'≤maxLen∧(q=none→c'=0))∧Below w.heap.size w w':=by
 obtain⟨b,o,rfl,_⟩:=(show NL w p (⟨5,l.length,⟨#[]⟩,⟨#[]⟩⟩::l.flatten) from hs).head
 have:=parts_full (setN l).length ⟨5,l.length,⟨#[]⟩,⟨#[]⟩⟩ l.flatten l (values_segs _ l h.vals (fun v hm=>by have:=mem_flat hm;show v.length+1≤l.flatten.length+1;omega)) b o c w hs hc hcm h.value (.inl rfl)
 rw[values_strip h.vals]at this
 exact this
theorem partsOf_set (l:List (List Nd))(p:Option Addr)(c:Nat)(w:World)(hs:NL w p (setN l))(hc:(setN l).length≤c)(hcm:c≤maxLen)(h:IsSet l):
 Calls Tryz.prog 140 #[.slice p (setN l).length c] w fun e w'=>(∃q c',e= .returned (.tuple #[.slice q l.length c',.nilIface])∧LL w' q l∧l.length≤c'∧c'≤maxLen∧(q=none→c'=0))∧Below w.heap.size w w':=by
 have H1:=parts_set l p c w hs hc hcm h
 obtain⟨b,o,rfl,hbw,x0,_⟩:=(show NL w p (⟨5,l.length,⟨#[]⟩,⟨#[]⟩⟩::l.flatten) from hs).head
 have i0:(0:Int)<((setN l).length:Int):=by simp[setN]
 unfold maxLen at hcm
 simp only at x0
 generalize (setN l).length=n at *
 clear hs h
 go_enter Tryz.func140,Tryz.ntmps140
 go_wp2_with fail
 refine H1.mono ?_
 rintro e w1 ⟨⟨q,c',rfl,h1,h2,h3,h4⟩,hb1⟩
 go_wp2
 go_ret2
 exact⟨⟨q,c',rfl,h1,h2,h3,h4⟩,hb1⟩
theorem sfault_c {s t:List Nd}(h:cfault s t≠0):sfault s t=cfault s t:=by
 unfold sfault cfault at *
 split
 · rename_i h1
   rw[if_pos h1]at h
   rw[if_neg h]
 · rfl
theorem sfault_v {s t:List Nd}(h:cfault s t=0):vfault s=0∧vfault t=0∧sfault s t=if isSetV s=true∧isSetV t=true then 0 else 2:=by
 unfold cfault at h
 split at h
 · rename_i h1
   refine⟨h1,h,?_⟩
   unfold sfault
   rw[if_pos h1,if_pos h]
 · rename_i h1;exact absurd h h1
theorem one_row {v:List Nd}(hv:vfault v=0)(hs:isSetV v=true):∃l,IsSet l∧v=setN l:=by
 cases v with
 | nil=>cases hs
 | cons x r=>exact set_row hv (by simpa[isSetV]using hs)
theorem partsOfBoth_bad (s t:List Nd)(p q:Option Addr)(c d:Nat)(w:World)(hs:NL w p s)(hc:s.length≤c)(hcm:c≤maxLen)(ht:NL w q t)(hd:t.length≤d)(hdm:d≤maxLen)(h:sfault s t≠0):
 Calls Tryz.prog 142 #[.slice p s.length c,.slice q t.length d] w fun e w'=>e= .returned (.tuple #[.slice none 0 0,.slice none 0 0,eV (sfault s t)])∧Below w.heap.size w w':=by
 have H1:=checkBoth_any s t p q c d w hs hc hcm ht hd hdm
 by_cases hz:cfault s t=0
 · obtain⟨h1,h2,h3⟩:=sfault_v hz
   rw[eV_nil hz]at H1
   have h4:sfault s t=2:=by
    rw[h3]at h ⊢
    split at h
    · exact absurd rfl h
    · rename_i hh;rw[if_neg hh]
   rw[h4]
   cases hs5:isSetV s
   · have H2:=fun w' (hb:Below w.heap.size w w')=>partsOf_type s p c w' (hs.up hb) hc hcm h1 hs5
     rw[eV_not (by decide:(2:Int)≠0)]at H2 ⊢
     clear h3 h hz
     go_enter Tryz.func142,Tryz.ntmps142
     go_wp2_with fail
     refine H1.mono ?_
     rintro e w1 ⟨rfl,hb1⟩
     go_wp2_with fail
     refine(H2 w1 hb1).mono ?_
     rintro e w2 ⟨rfl,rfl⟩
     go_wp2
     go_ret3
     exact⟨rfl,hb1⟩
   · obtain⟨l,hl,rfl⟩:=one_row h1 hs5
     have ht5:isSetV t=false:=by
      cases e:isSetV t with
      | false=>rfl
      | true=>rw[h3,if_pos ⟨hs5,e⟩]at h;exact absurd rfl h
     have H2:=fun w' (hb:Below w.heap.size w w')=>partsOf_set l p c w' (hs.up hb) hc hcm hl
     have H3:=fun w' (hb:Below w.heap.size w w')=>partsOf_type t q d w' (ht.up hb) hd hdm h2 ht5
     rw[eV_not (by decide:(2:Int)≠0)]at H3 ⊢
     clear h3 h hz
     go_enter Tryz.func142,Tryz.ntmps142
     go_wp2_with fail
     refine H1.mono ?_
     rintro e w1 ⟨rfl,hb1⟩
     go_wp2_with fail
     refine(H2 w1 hb1).mono ?_
     rintro e w2 ⟨⟨q2,c2,rfl,_,_,_⟩,hb2⟩
     have hb3:=hb1.trans (hb2.mono hb1.size)
     go_wp2_with fail
     refine(H3 w2 hb3).mono ?_
     rintro e w3 ⟨rfl,rfl⟩
     go_wp2
     go_ret3
     exact⟨rfl,hb3⟩
 · rw[sfault_c hz]
   rw[eV_not hz]at H1 ⊢
   go_enter Tryz.func142,Tryz.ntmps142
   go_wp2_with fail
   refine H1.mono ?_
   rintro e w1 ⟨rfl,hb1⟩
   go_wp2
   go_ret3
   exact⟨rfl,hb1⟩
theorem partsOfBoth_ok (l m:List (List Nd))(p q:Option Addr)(c d:Nat)(w:World)(hs:NL w p (setN l))(hc:(setN l).length≤c)(hcm:c≤maxLen)(ht:NL w q (setN m))(hd:(setN m).length≤d)(hdm:d≤maxLen)(hl:IsSet l)(hm:IsSet m):
 Calls Tryz.prog 142 #[.slice p (setN l).length c,.slice q (setN m).length d] w fun e w'=>(∃q1 c1 q2 c2,e= .returned (.tuple #[.slice q1 l.length c1,.slice q2 m.length c2,.nilIface])∧LL w' q1 l∧l.length≤c1∧c1≤maxLen∧LL w' q2 m∧m.length≤c2∧c2≤maxLen∧(q1=none→c1=0)∧(q2=none→c2=0))∧Below w.heap.size w w':=by
 have H1:=checkBoth_any (setN l) (setN m) p q c d w hs hc hcm ht hd hdm
 have hz:cfault (setN l) (setN m)=0:=by unfold cfault;rw[if_pos hl.value];exact hm.value
 rw[eV_nil hz]at H1
 have H2:=fun w' (hb:Below w.heap.size w w')=>partsOf_set l p c w' (hs.up hb) hc hcm hl
 have H3:=fun w' (hb:Below w.heap.size w w')=>partsOf_set m q d w' (ht.up hb) hd hdm hm
 clear hz hs ht
 go_enter Tryz.func142,Tryz.ntmps142
 go_wp2_with fail
 refine H1.mono ?_
 rintro e w1 ⟨rfl,hb1⟩
 go_wp2_with fail
 refine(H2 w1 hb1).mono ?_
 rintro e w2 ⟨⟨q2,c2,rfl,k1,k2,k3,z1⟩,hb2⟩
 have hb3:=hb1.trans (hb2.mono hb1.size)
 go_wp2_with fail
 refine(H3 w2 hb3).mono ?_
 rintro e w3 ⟨⟨q3,c3,rfl,k4,k5,k6,z2⟩,hb4⟩
 have k1':=k1.up hb4
 go_wp2
 go_ret3
 exact⟨⟨q2,c2,q3,c3,rfl,k1',k2,k3,k4,k5,k6,z1,z2⟩,hb3.trans (hb4.mono hb3.size)⟩
end Go.Proofs.YtlnhaajjoplafaaGreatDoor
namespace Go.Proofs.YtlnhaajjoplafaaGreatDoor
open Go.RowKit Go.Sort Go.Shelf
structure SlE (w:World)(blk:Nat) where
 u:Value
 L:List Nd
 ok:∃q c,u= .slice q L.length c∧NL w q L∧L.length≤maxLen∧∀b o,q=some ⟨b,o,none⟩→L=[]∨b≠blk
instance (w:World) (blk:Nat):Inhabited (SlE w blk):=⟨⟨.slice none 0 0,[],none,0,rfl,.inl rfl,Nat.zero_le _,fun b o h=>by cases h⟩⟩
def SlE.cf {w:World}{blk:Nat}(x y:SlE w blk):Int:=lsC x.L y.L
theorem cf_swo (w:World)(blk:Nat):SWO (ltOf (SlE.cf (w:=w) (blk:=blk))) where
 irrefl x:=by unfold ltOf SlE.cf;rw[lsC_is.self];rfl
 trans x y z h1 h2:=by
  unfold ltOf SlE.cf at *
  simp at *
  exact lsC_is.lt_le h1 (by omega)
 ntrans x y z h1 h2:=by
  unfold ltOf SlE.cf at *
  simp at *
  have a:=lsC_is.neg x.L y.L
  have b:=lsC_is.neg y.L z.L
  have c:=lsC_is.neg x.L z.L
  have:=lsC_is.trans z.L y.L x.L (by omega) (by omega)
  omega
theorem up_grow {w w':World}(h:Up w w'):∃q os,w'=grow (w.drewN q) os:=by
 refine⟨w'.drawn-w.drawn,w'.heap.extract w.heap.size w'.heap.size,?_⟩
 obtain⟨hb,hd⟩:=h
 obtain⟨h1,h2,h3,h4,h5⟩:=hb
 cases w with | mk heap tape drawn os output=>
 cases w' with | mk heap' tape' drawn' os' output'=>
 simp only at *
 subst h1 h2 h3
 unfold grow World.drewN
 simp only[World.mk.injEq,true_and,and_true]
 refine⟨?_,by omega⟩
 apply Array.ext_getElem?
 intro k
 rw[Array.getElem?_append]
 split
 · exact h5 k ‹_›
 · rename_i hk
   rw[Array.getElem?_extract]
   by_cases hlt:k<heap'.size
   · rw[if_pos (by omega)]
     congr 1;omega
   · rw[if_neg (by omega),Array.getElem?_eq_none (by omega)]
theorem NL.sorting {α :Type}[Inhabited α]{enc: α →Value}{w:World}{blk off m:Nat}{dk:Array α}{os:Array Obj}{q:Option Addr}{L:List Nd}(h:NL w q L)(hne:∀b o,q=some ⟨b,o,none⟩→L=[]∨b≠blk):NL (sortWorld enc w blk off m dk os) q L:=by
 rcases h with h | ⟨b,o,h1,h2,h3⟩
 · exact .inl h
 · rcases hne b o h1 with e | hb
   · exact .inl e
   · have hs:(putRow enc (Sort.ahead w m) blk off dk).heap.size=w.heap.size:=by simp[Go.Sort.size_putRow,Sort.ahead]
     have hc:∀a,(sortWorld enc w blk off m dk os).cell? ⟨b,a,none⟩=w.cell? ⟨b,a,none⟩:=fun a=>by
      unfold sortWorld
      rw[cell?_grow _ _ _ (by rw[hs];exact h2),cell?_putRow_other _ _ _ _ _ _ (.inl hb)]
      rfl
     refine .inr ⟨b,o,h1,by unfold sortWorld;simp[hs];omega,fun i x hx=>?_⟩
     simp only[hc]
     exact h3 i x hx
theorem order_lays (blk off size:Nat)(w:World):CmpLays1 Tryz.prog 118 #[] (SlE.u (w:=w) (blk:=blk)) SlE.cf blk off size w:=by
 intro m os dk _ x y
 obtain⟨qx,cx,ex,hx,lx,nx⟩:=x.ok
 obtain⟨qy,cy,ey,hy,ly,ny⟩:=y.ok
 rw[ex,ey]
 exact(order_any x.L y.L qx qy cx cy _ (hx.sorting nx) (hy.sorting ny) lx ly).mono fun e w' ⟨he,hu⟩=>⟨he,up_grow hu⟩
theorem sortLists_fn (blk off cap:Nat)(w:World)(d:Array (SlE w blk))(hH:Holds SlE.u w blk off d)(hblk:blk<w.heap.size)(hsz:d.size<4611686018427387904):
 Calls Tryz.prog 117 #[.slice (some ⟨blk,off,none⟩) d.size cap,.func (.func 118) #[] #[]] w fun e w'=>
  e= .returned (.tuple #[])∧∃d' n os,PermIn 0 d.size d d'∧SortedIn (ltOf SlE.cf) 0 d.size d'∧w'=sortWorld SlE.u w blk off n d' os:=by
 have eg:∀args w,(callFunc 118 args).run Tryz.prog w= .ok (.enter 118 args) w:=enters_of Tryz.func118 (by kernel_rfl) rfl
 have h:=Any.slices_SortFunc Tryz.sortF SlE.u (fun x=>by obtain⟨q,c,e,_⟩:=x.ok;rw[e];rfl) SlE.cf (cf_swo w blk) 118 #[] blk off cap d w eg (order_lays blk off d.size w) hH hblk hsz
 exact h
end Go.Proofs.YtlnhaajjoplafaaGreatDoor
namespace Go.Proofs.YtlnhaajjoplafaaGreatDoor
open Go.RowKit
theorem NL.one (w:World)(s:ByteArray)(hs:s.size≤maxLen):NL (w.alloc (.cells #[.int .i64 7,.int .i64 0,.string s,.string ⟨#[]⟩] 47)) (some ⟨w.heap.size,0,none⟩) [⟨7,0,s,⟨#[]⟩⟩]:=by
 refine .inr ⟨w.heap.size,0,rfl,by simp,fun i x hx=>?_⟩
 rcases i with _ | i
 · simp at hx
   subst hx
   simp[go_sem,Nd.wf,hs]
 · simp at hx
end Go.Proofs.YtlnhaajjoplafaaGreatDoor
namespace Go.Proofs.YtlnhaajjoplafaaGreatDoor
set_option linter.unusedSimpArgs false
set_option maxRecDepth 100000
theorem poE_64 {p:Po}(h:∀c∈p.cs,∀y∈c.ex,n64 y):N64 (poE p):=by
 intro x hx h2
 unfold poE andsL at hx
 rcases List.mem_append.1 hx with hx | hx
 · obtain⟨_,rfl⟩:=List.mem_replicate.1 hx
   exact absurd h2 (by decide)
 · obtain⟨l,hl,hx⟩:=List.mem_flatten.1 hx
   have hsc:∀v s,x∈scE v s→False:=fun v s hx=>by
    unfold scE at hx
    repeat' split at hx
    all_goals
     simp at hx
     first
      | (rcases hx with rfl | rfl | rfl | rfl | rfl | rfl<;>simp[nO,nSy,nEn]at h2)
      | (rcases hx with rfl | rfl | rfl<;>simp[nO,nSy,nEn]at h2)
      | (rcases hx with rfl | rfl<;>simp[nO,nSy,nEn]at h2)
      | (subst hx;simp[nTr]at h2)
   unfold poP at hl
   rcases List.mem_cons.1 hl with rfl | hl
   · exact(hsc _ _ hx).elim
   rcases List.mem_cons.1 hl with rfl | hl
   · exact(hsc _ _ hx).elim
   rcases List.mem_cons.1 hl with rfl | hl
   · exact(hsc _ _ hx).elim
   obtain⟨c,hc,rfl⟩:=List.mem_map.1 hl
   unfold cdE at hx
   split at hx
   · rcases List.mem_cons.1 hx with rfl | hx
     · exact absurd h2 (by decide)
     · exact h c hc x hx h2
   · exact h c hc x hx h2
end Go.Proofs.YtlnhaajjoplafaaGreatDoor
