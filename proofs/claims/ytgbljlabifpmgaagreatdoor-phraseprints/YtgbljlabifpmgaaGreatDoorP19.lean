import Derived.Test.YtgbljlabifpmgaaGreatDoorP18
import Derived.Test.YtgbljlabifpmgaaGreatDoorP15
import Derived.Test.YtgbljlabifpmgaaGreatDoorP5
import Derived.Deep.RegionWith
import Derived.Defers
import Derived.Recover
import Derived.Laws.Pointers
import Derived.BigQuiet
set_option linter.unusedVariables false
set_option maxHeartbeats 12000000
namespace Go.Proofs.YtgbljlabifpmgaaGreatDoor
open Go.RowKit
def tailV (b off c n m:Nat):Value:=.slice (some ⟨b,off+4*min (n-m) (c-1),none⟩) m (c-(n-m))
def Past (b off c n:Nat):Option (List Nd)→Ending
 | some r=>.returned (tailV b off c n r.length)
 | none=>.panicked thrown
theorem NL.drop {w:World}{b off:Nat}{v r:List Nd}(h:NL w (some ⟨b,off,none⟩) v)(ht:IsTail r v)(c:Nat)(hc:v.length≤c):NL w (some ⟨b,off+4*min (v.length-r.length) (c-1),none⟩) r:=by
 obtain⟨a,rfl⟩:=ht
 cases r with
 | nil=>exact .inl rfl
 | cons y r=>
   rcases h with h | ⟨b',off',h1,h2,h3⟩
   · simp at h
   · cases h1
     refine .inr ⟨_,_,rfl,h2,fun i x hx=>?_⟩
     have hl:(a++y::r).length-(y::r).length=a.length:=by simp
     have hm:min ((a++y::r).length-(y::r).length) (c-1)=a.length:=by
      rw[hl];simp at hc;omega
     have:=h3 (a.length+i) x (by rw[List.getElem?_append_right (by omega)];simpa using hx)
     rw[hm]
     rw[show off+(a.length+i)*4=off+4*a.length+i*4 by omega]at this
     exact this
theorem setLoop_none {pv:List Nd→Option (List Nd)}{n k:Nat}(h:k<n){last:Option (List Nd)}{v:List Nd}(e:pv v=none):setLoop pv (n-k) last v=none:=by
 rw[show n-k=(n-(k+1))+1 by omega];simp only[setLoop,e]
theorem setLoop_some {pv:List Nd→Option (List Nd)}{n k:Nat}(h:k<n){last:Option (List Nd)}{v rest:List Nd}(e:pv v=some rest):
 setLoop pv (n-k) last v=if aheadOf last (v.take (v.length-rest.length))then setLoop pv (n-(k+1)) (some (v.take (v.length-rest.length))) rest else none:=by
 rw[show n-k=(n-(k+1))+1 by omega];simp only[setLoop,e]
def PastOk (f:Nat):Prop:=∀(v:List Nd) (b off c:Nat) (w:World),v.length<f→NL w (some ⟨b,off,none⟩) v→v.length≤c→c≤maxLen→
 Calls Tryz.prog 94 #[.slice (some ⟨b,off,none⟩) v.length c] w fun e w'=>e=Past b off c v.length (pastV f v)∧Below w.heap.size w w'
theorem tailV_next {b off c n m k:Nat}(h1:m≤n)(h2:n≤c)(h3:k<m):tailV b (off+4*min (n-m) (c-1)) (c-(n-m)) m k=tailV b off c n k:=by
 unfold tailV
 rw[show off+4*min (n-m) (c-1)+4*min (m-k) (c-(n-m)-1)=off+4*min (n-k) (c-1) by omega,show c-(n-m)-(m-k)=c-(n-k) by omega]
theorem tailV_all {b off c n:Nat}:tailV b off c n n= .slice (some ⟨b,off,none⟩) n c:=by
 unfold tailV
 rw[show off+4*min (n-n) (c-1)=off by omega,show c-(n-n)=c by omega]
set_option maxRecDepth 100000 in
theorem pastSet_any (f:Nat)(ih:PastOk f)(v:List Nd)(b off c:Nat)(cnt:Int)(w:World)(hf:v.length<f)(hv:NL w (some ⟨b,off,none⟩) v)(hc:v.length≤c)(hcm:c≤maxLen)(h0:0≤cnt)(h1:cnt≤9223372036854775807):
 Calls Tryz.prog 101 #[.slice (some ⟨b,off,none⟩) v.length c,.int .i64 cnt] w fun e w'=>e=Past b off c v.length (setLoop (pastV f) cnt.toNat none v)∧Below w.heap.size w w':=by
 unfold maxLen at hcm
 generalize hR:setLoop (pastV f) cnt.toNat none v=R
 have HR:Hid (_=_):=hR
 clear hR
 go_enter Tryz.func101,Tryz.ntmps101
 go_wp2
 go_loopw [0,5,10] (fun sv sl i wr=>∃(k:Nat) (u:List Nd) (last:Option (List Nd)) (pl:Option Addr) (nl cl:Nat),
  (k:Int)≤cnt∧i= .int .i64 k∧sv=tailV b off c v.length u.length∧Hid (IsTail u v)∧
  sl= .slice pl nl cl∧Hid (last=none↔k=0)∧Hid (∀l,last=some l→l.length=nl∧NL wr pl l∧nl≤9223372036854775807)∧Hid (setLoop (pastV f) (cnt.toNat-k) last u=R)∧Below w.heap.size w wr) (fun _ _ i _=>cnt.toNat-(intOf i).toNat)
 case atStart=>exact⟨0,v,none,none,0,0,by simpa using h0,rfl,tailV_all.symm,IsTail.refl _,rfl,(iff_of_true rfl rfl:_),(fun l h=>by cases h),HR,Below.refl _ _⟩
 case round=>
  obtain⟨k,u,last,pl,nl,cl,hk,rfl,rfl,HT,rfl,HL0,HL,HS,hb⟩:=hrel
  have hul:=HT.out.length
  have hu:=(hv.up hb).drop HT.out c hc
  by_cases hlt:(k:Int)<cnt
  · have hkn:k<cnt.toNat:=by omega
    have hpast:=ih u b (off+4*min (v.length-u.length) (c-1)) (c-(v.length-u.length)) wr (by omega) hu (by omega) (by unfold maxLen;omega)
    unfold tailV
    go_wp2_with fail
    refine hpast.mono ?_
    rintro e w1 ⟨rfl,hb1⟩
    have hb2:Below w.heap.size w w1:=hb.trans (hb1.mono hb.size)
    cases hv2:pastV f u with
    | none=>
      have HN:Hid (none=R):=by rw[←HS.out,setLoop_none hkn hv2];rfl
      clear hv2 HS HR hpast
      unfold Past
      go_wp2
      exact⟨rfl,by rw[←HN.out];rfl,hb2⟩
    | some rest=>
      obtain⟨hsh,htl⟩:=pastV_shorter hv2
      have HN:Hid (_=_):=(setLoop_some (last:=last) hkn hv2).symm.trans HS.out
      have hu1:=hu.up hb1
      have HP:Hid ((u.take (u.length-rest.length)).length=u.length-rest.length):=by show _=_;simp
      have HX:Hid (_=_):=tailV_next (b:=b) (off:=off) (c:=c) (n:=v.length) (m:=u.length) (k:=rest.length) hul hc hsh
      clear hv2 HS HR hpast
      unfold Past
      simp only[]
      rw[HX.out]
      unfold tailV
      generalize off+4*min (v.length-u.length) (c-1)=uo at *
      generalize hcu:c-(v.length-u.length)=cu at *
      have HCU:Hid (_=_):=hcu
      have hcu1:u.length≤cu:=by omega
      clear hcu
      cases last with
      | none=>
        obtain rfl:k=0:=HL0.out.1 rfl
        go_wp2_with fail
        refine(need_true _).mono ?_
        rintro e w2 ⟨rfl,rfl⟩
        go_wp2
        go_roundw
        case rel=>
         refine⟨1,rest,some (u.take (u.length-rest.length)),_,u.length-rest.length,_,by omega,by go_num,rfl,htl.trans HT.out,rfl,?_,?_,?_,hb2⟩
         · show(_↔_);exact iff_of_false (by simp) (by simp)
         · intro l hl;cases hl;exact⟨HP.out,hu1.take _,by omega⟩
         · have:=HN.out;rw[show aheadOf none (u.take (u.length-rest.length))=true from rfl,if_pos rfl]at this;exact this
        case measure=>simp[intOf];omega
      | some l=>
        have hk0:k≠0:=fun h=>by have:=HL0.out.2 h;cases this
        obtain⟨rfl,hl,hnl⟩:=HL.out l rfl
        have e0:((k:Int) == 0)=false:=by simp;omega
        have ho:=order_any l (u.take (u.length-rest.length)) pl (some ⟨b,uo,none⟩) cl cu w1 (hl.up hb1) (hu1.take _) (by unfold maxLen;omega) (by rw[HP.out];unfold maxLen;omega)
        rw[HP.out]at ho
        generalize hm:u.take (u.length-rest.length)=m at ho HN HP
        have HM2:Hid (_=_):=hm
        clear hm
        go_wp2_with fail
        refine ho.mono ?_
        rintro e w2 ⟨rfl,hu2⟩
        have hb3:Below w.heap.size w w2:=hb2.trans (hu2.1.mono hb2.size)
        cases hlt0:decide (lsC l m<0)
        · go_wp2_with fail
          refine(need_false _).mono ?_
          rintro e w3 ⟨rfl,rfl⟩
          go_wp2
          refine⟨rfl,?_,hb3⟩
          have:=HN.out;rw[show aheadOf (some l) m=false by simpa only[aheadOf]using hlt0,if_neg (by simp)]at this
          rw[←this];rfl
        · go_wp2_with fail
          refine(need_true _).mono ?_
          rintro e w3 ⟨rfl,rfl⟩
          go_wp2
          go_roundw
          case rel=>
           refine⟨k+1,rest,some m,_,u.length-rest.length,_,by omega,by go_num,rfl,htl.trans HT.out,rfl,?_,?_,?_,hb3⟩
           · show(_↔_);exact iff_of_false (by simp) (by simp)
           · intro l hl;cases hl;exact⟨HP.out,by rw[←HM2.out];exact(hu1.take _).up hu2.1,by omega⟩
           · have:=HN.out;rw[show aheadOf (some l) m=true by simpa only[aheadOf]using hlt0,if_pos rfl]at this;exact this
          case measure=>simp[intOf];omega
  · have HN:Hid (some u=R):=by
     have:=HS.out
     rw[show cnt.toNat-k=0 by omega]at this
     exact this
    clear HS HR
    go_wp2
    go_ret
    exact⟨by rw[←HN.out];rfl,hb⟩
theorem recLoop_nil {pv:List Nd→Option (List Nd)}{n k:Nat}(h:k<n){last:ByteArray}:recLoop pv (n-k) last []=none:=by
 rw[show n-k=(n-(k+1))+1 by omega];rfl
theorem recLoop_bad {pv:List Nd→Option (List Nd)}{n k:Nat}(h:k<n){last:ByteArray}{x:Nd}{r:List Nd}(e:¬(x.op=7∧ndOk x=true∧cmpB last x.s<0)):recLoop pv (n-k) last (x::r)=none:=by
 rw[show n-k=(n-(k+1))+1 by omega];simp only[recLoop,if_neg e]
theorem recLoop_go {pv:List Nd→Option (List Nd)}{n k:Nat}(h:k<n){last:ByteArray}{x:Nd}{r:List Nd}(e:x.op=7∧ndOk x=true∧cmpB last x.s<0):
 recLoop pv (n-k) last (x::r)=match pv r with | none=>none | some rest=>recLoop pv (n-(k+1)) x.s rest:=by
 rw[show n-k=(n-(k+1))+1 by omega];simp only[recLoop,if_pos e];cases pv r<;>rfl
set_option maxRecDepth 100000 in
theorem pastRec_any (f:Nat)(ih:PastOk f)(v:List Nd)(b off c:Nat)(cnt:Int)(w:World)(hf:v.length<f)(hv:NL w (some ⟨b,off,none⟩) v)(hbw:b<w.heap.size)(hc:v.length≤c)(hcm:c≤maxLen)(h0:0≤cnt)(h1:cnt≤9223372036854775807):
 Calls Tryz.prog 102 #[.slice (some ⟨b,off,none⟩) v.length c,.int .i64 cnt] w fun e w'=>e=Past b off c v.length (recLoop (pastV f) cnt.toNat ⟨#[]⟩ v)∧Below w.heap.size w w':=by
 unfold maxLen at hcm
 generalize hR:recLoop (pastV f) cnt.toNat ⟨#[]⟩ v=R
 have HR:Hid (_=_):=hR
 clear hR
 go_enter Tryz.func102,Tryz.ntmps102
 go_wp2
 go_loopw [0,5,7] (fun sv sl i wr=>∃(k:Nat) (u:List Nd) (last:ByteArray),
  (k:Int)≤cnt∧i= .int .i64 k∧sv=tailV b off c v.length u.length∧Hid (IsTail u v)∧
  sl= .string last∧Hid (recLoop (pastV f) (cnt.toNat-k) last u=R)∧Below w.heap.size w wr) (fun _ _ i _=>cnt.toNat-(intOf i).toNat)
 case atStart=>exact⟨0,v,_,by simpa using h0,rfl,tailV_all.symm,IsTail.refl _,rfl,HR,Below.refl _ _⟩
 case round=>
  obtain⟨k,u,last,hk,rfl,rfl,HT,rfl,HS,hb⟩:=hrel
  have hul:=HT.out.length
  have hu:=(hv.up hb).drop HT.out c hc
  by_cases hlt:(k:Int)<cnt
  · have hkn:k<cnt.toNat:=by omega
    unfold tailV
    cases u with
    | nil=>
      have HN:Hid (none=R):=(recLoop_nil hkn).symm.trans HS.out
      clear HS HR
      go_wp2_with fail
      refine(need_false _).mono ?_
      rintro e w3 ⟨rfl,rfl⟩
      go_wp2
      exact⟨rfl,by rw[←HN.out];rfl,hb⟩
    | cons x r=>
      have HX2:Hid (∀m,m<r.length+1→tailV b (off+4*min (v.length-(x::r).length) (c-1)) (c-(v.length-(x::r).length)) (x::r).length m=tailV b off c v.length m):=fun m hm=>tailV_next hul hc (by simpa using hm)
      generalize off+4*min (v.length-(x::r).length) (c-1)=xo at *
      have hcu1:(x::r).length≤c-(v.length-(x::r).length):=by omega
      have hcu2:c-(v.length-(x::r).length)≤9223372036854775807:=by omega
      generalize c-(v.length-(x::r).length)=cu at *
      have hxb:b<wr.heap.size:=Nat.lt_of_lt_of_le hbw hb.size
      obtain⟨xb',xo',hpe,_,x0,x1,x2,x3,xw⟩:=hu.head
      obtain⟨rfl,rfl⟩:b=xb'∧xo=xo':=by simpa using hpe
      clear hpe
      have i0:(0:Int)<((x::r).length:Int):=by simp
      simp only[List.length_cons]at *
      cases e7:(x.op == 7)
      · have HN:Hid (none=R):=(recLoop_bad hkn (fun h=>by simp[h.1]at e7)).symm.trans HS.out
        clear HS HR
        go_wp2_with fail
        refine(need_false _).mono ?_
        rintro e w3 ⟨rfl,rfl⟩
        go_wp2
        exact⟨rfl,by rw[←HN.out];rfl,hb⟩
      · have HX:=fun w=>mayBe_any x w xw
        cases hx:ndOk x<;>rw[hx]at HX
        · have HN:Hid (none=R):=(recLoop_bad hkn (fun h=>by simp[h.2.1]at hx)).symm.trans HS.out
          clear HS HR
          go_wp2_with fail
          refine(HX _).mono ?_
          rintro e w2 ⟨rfl,hb2⟩
          go_wp2_with fail
          refine(need_false _).mono ?_
          rintro e w3 ⟨rfl,rfl⟩
          go_wp2
          exact⟨rfl,by rw[←HN.out];rfl,hb.trans (hb2.mono hb.size)⟩
        · go_wp2_with fail
          refine(HX _).mono ?_
          rintro e w2 ⟨rfl,hb2⟩
          have hb3:Below w.heap.size w w2:=hb.trans (hb2.mono hb.size)
          have q:∀o,w2.cell? ⟨b,o,none⟩=wr.cell? ⟨b,o,none⟩:=fun o=>hb2.cell (p:=⟨b,o,none⟩) hxb
          have z0:=(q xo).trans x0
          have z2:=(q (xo+2)).trans x2
          have hu2:=hu.up hb2
          have hx2:b<w2.heap.size:=Nat.lt_of_lt_of_le hxb hb2.size
          have hbl:Op.bytesLess last.toList x.s.toList=decide (cmpB last x.s<0):=by rw[bytesLess_cb,ByteArray.toList_eq,ByteArray.toList_eq];rfl
          clear q x0 x1 x2 x3 hu hb2 hb
          go_wp2_with fail
          refine(need_true _).mono ?_
          rintro e w3 ⟨rfl,rfl⟩
          go_wp2_with fail
          cases hlt0:decide (cmpB last x.s<0)
          · have HN:Hid (none=R):=(recLoop_bad hkn (fun h=>by simp[h.2.2]at hlt0)).symm.trans HS.out
            refine(need_false _).mono ?_
            rintro e w4 ⟨rfl,rfl⟩
            go_wp2
            exact⟨rfl,by rw[←HN.out];rfl,hb3⟩
          · have HN:Hid (_=_):=(recLoop_go hkn ⟨by simpa using e7,hx,by simpa using hlt0⟩).symm.trans HS.out
            refine(need_true _).mono ?_
            rintro e w4 ⟨rfl,rfl⟩
            have hz2:∀q:BW w4.heap.size w4,q.at_.cell? ⟨b,xo+2,none⟩=some (.string x.s):=fun q=>(q.bel.cell (p:=⟨b,xo+2,none⟩) hx2).trans z2
            cases hp:pastV f r with
            | some rest=>
              obtain⟨hsh,htl⟩:=pastV_shorter hp
              have hc1:¬cu=1:=by omega
              have hcall:∀q:BW w4.heap.size w4,Calls Tryz.prog 94 #[.slice (some ⟨b,xo+4,none⟩) r.length (cu-1)] q.at_ (fun e w''=>e= .returned (tailV b off c v.length rest.length)∧∃p':BW w4.heap.size w4,w''=p'.at_):=fun q=>Calls.bel q (by
               have h:=ih r b (xo+4) (cu-1) q.at_ (by omega) (hu2.tail.up q.bel) (by omega) (by unfold maxLen;omega)
               rw[hp]at h
               have e1:tailV b (xo+4) (cu-1) r.length rest.length=tailV b off c v.length rest.length:=by
                rw[←HX2.out rest.length (by omega)]
                unfold tailV
                rw[show xo+4+4*min (r.length-rest.length) (cu-1-1)=xo+4*min (r.length+1-rest.length) (cu-1) by omega,show cu-1-(r.length-rest.length)=cu-(r.length+1-rest.length) by omega]
               unfold Past at h
               simp only[]at h
               rw[e1]at h
               exact h)
              go_wp2_with fail
              refine wp_region_bel (by kernel_rfl) (by kernel_rfl) ?_
              repeat (go_big_quiet_step (exact hcall _))
              refine wpQuiet_nil ?_
              rintro _ ⟨q,rfl⟩
              have hb5:=hb3.trans (q.bel.mono hb3.size)
              have HN2:Hid (recLoop (pastV f) (cnt.toNat-(k+1)) x.s rest=R):=by have:=HN.out;rw[hp]at this;exact this
              clear HN hp HS HR hcall hz2
              go_wp2
              go_roundw
              case rel=>exact⟨k+1,rest,x.s,by omega,by go_num,rfl,(htl.cons x).trans HT.out,rfl,HN2,hb5⟩
              case measure=>simp[intOf];omega
            | none=>
              have HN2:Hid (none=R):=by have:=HN.out;rw[hp]at this;exact this
              have j1:(1:Int)≤(r.length:Int)+1:=by omega
              obtain⟨pr,hpr,hnr⟩:∃pr,(if cu=1 then some (⟨b,xo,none⟩:Addr)else some ⟨b,xo+4,none⟩)=some ⟨b,pr,none⟩∧NL w4 (some ⟨b,pr,none⟩) r:=by
               by_cases h:cu=1
               · exact⟨xo,if_pos h,.inl (List.eq_nil_of_length_eq_zero (by omega))⟩
               · exact⟨xo+4,if_neg h,hu2.tail⟩
              have hcall:∀q:BW w4.heap.size w4,Calls Tryz.prog 94 #[.slice (some ⟨b,pr,none⟩) r.length (cu-1)] q.at_ (fun e w''=>e= .panicked thrown∧Below w4.heap.size w4 w''):=fun q=>(by
               have h:=ih r b pr (cu-1) q.at_ (by omega) (hnr.up q.bel) (by omega) (by unfold maxLen;omega)
               rw[hp]at h
               exact h.mono fun e w'' ⟨h1,h2⟩=>⟨h1,q.bel.trans (h2.mono q.bel.size)⟩)
              clear HN hp HS HR
              go_wp2_with fail
              refine wp_mono (Q:=fun e a w'=>e= .panic thrown∧a.defers=[]∧Below w4.heap.size w4 w') ?_ ?_
              rotate_left
              · rintro _ a w5 ⟨rfl,hd,hb5⟩
                go_wp2
                exact⟨hd,by rw[←HN2.out];rfl,hb3.trans (hb5.mono hb3.size)⟩
              refine wp_region_any (by kernel_rfl) ?_
              refine wpAny_take (i:=0) (v:=?_) rfl (by kernel_rfl) (by kernel_rfl) (by kernel_rfl) (fun _ _ _ h=>h) (Or.inl ⟨by rfl,?_⟩) ?_
              rotate_left
              · intro w;go_simp;with_reducible rfl
              refine wpAny_take (i:=1) (v:=?_) rfl (by kernel_rfl) (by kernel_rfl) (by kernel_rfl) (fun _ _ _ h=>h) (Or.inl ⟨by rfl,?_⟩) ?_
              rotate_left
              · intro w;go_simp;with_reducible rfl
              refine wpAny_take (i:=2) (v:=?_) rfl (by kernel_rfl) (by kernel_rfl) (by kernel_rfl) (fun _ _ _ h=>h) (Or.inl ⟨by rfl,?_⟩) ?_
              rotate_left
              · intro w;go_simp;with_reducible rfl
              refine wpAny_take (i:=4) (v:=?_) rfl (by kernel_rfl) (by kernel_rfl) (by kernel_rfl) (fun _ _ _ h=>h) (Or.inl ⟨by rfl,?_⟩) ?_
              rotate_left
              · intro w;go_simp;with_reducible rfl
              refine wpAny_take (i:=5) (v:=.slice (some ⟨b,pr,none⟩) r.length (cu-1)) rfl (by kernel_rfl) (by kernel_rfl) (by kernel_rfl) (fun _ _ _ h=>h) (Or.inl ⟨by rfl,?_⟩) ?_
              · intro w;go_simp
              refine wpAny_ready (rs:=[3,6]) (by kernel_rfl) (by simp) ?_
              have c0:=hcall ⟨w4.drew,(Below.refl _ _).drew⟩
              have z3:w4.drew.cell? ⟨b,xo+2,none⟩=some (.string x.s):=z2
              refine AllReady.cons rfl (fun K hK=>?_) ?_
              · go_simp
                refine hK _ _ ?_
                clear hK K
                refine wpAny_ready (rs:=[6]) (by kernel_rfl) (by simp) ?_
                refine AllReady.cons rfl (fun K hK=>?_) AllReady.nil
                go_simp
                refine c0.mono ?_
                rintro e w5 ⟨rfl,hb5⟩
                exact⟨rfl,hb5⟩
              · refine AllReady.cons rfl (fun K hK=>?_) AllReady.nil
                go_simp
                refine c0.mono ?_
                rintro e w5 ⟨rfl,hb5⟩
                exact⟨rfl,hb5⟩
  · have HN:Hid (some u=R):=by
     have:=HS.out
     rw[show cnt.toNat-k=0 by omega]at this
     cases u<;>exact this
    clear HS HR
    go_wp2
    go_ret
    exact⟨by rw[←HN.out];rfl,hb⟩
theorem tailV_cons {b off c n m pr:Nat}(hpr:(if c=1 then some (⟨b,off,none⟩:Addr)else some ⟨b,off+4,none⟩)=some ⟨b,pr,none⟩)(h1:m≤n)(h2:n+1≤c):tailV b pr (c-1) n m=tailV b off c (n+1) m:=by
 unfold tailV
 by_cases h:c=1
 · rw[if_pos h]at hpr
   obtain rfl:off=pr:=by simpa using hpr
   rw[show off+4*min (n-m) (c-1-1)=off+4*min (n+1-m) (c-1) by omega,show c-1-(n-m)=c-(n+1-m) by omega]
 · rw[if_neg h]at hpr
   obtain rfl:off+4=pr:=by simpa using hpr
   rw[show off+4+4*min (n-m) (c-1-1)=off+4*min (n+1-m) (c-1) by omega,show c-1-(n-m)=c-(n+1-m) by omega]
theorem Past_cons {b off c n pr:Nat}(hpr:(if c=1 then some (⟨b,off,none⟩:Addr)else some ⟨b,off+4,none⟩)=some ⟨b,pr,none⟩)(h2:n+1≤c)(R:Option (List Nd))(hR:∀r,R=some r→r.length≤n):Past b pr (c-1) n R=Past b off c (n+1) R:=by
 cases R with
 | none=>rfl
 | some r=>unfold Past;simp only[];rw[tailV_cons hpr (hR r rfl) h2]
theorem ndOk_count {x:Nd}(h:ndOk x=true)(h5:x.op=5∨x.op=6):0≤x.n:=by
 unfold ndOk at h
 rcases h5 with e | e<;>simp[e]at h<;>exact h.2
set_option maxRecDepth 100000 in
theorem pastValue_step (f:Nat)(ih:PastOk f)(v:List Nd)(b off c:Nat)(w:World)(hf:v.length<f+1)(hv:NL w (some ⟨b,off,none⟩) v)(hc:v.length≤c)(hcm:c≤maxLen):
 Calls Tryz.prog 94 #[.slice (some ⟨b,off,none⟩) v.length c] w fun e w'=>e=Past b off c v.length (pastV (f+1) v)∧Below w.heap.size w w':=by
 have HM:Hid (c≤maxLen):=hcm
 unfold maxLen at hcm
 cases v with
 | nil=>
   go_enter Tryz.func94,Tryz.ntmps94
   go_wp2_with fail
   refine(need_false _).mono ?_
   rintro e w3 ⟨rfl,rfl⟩
   go_wp2
   exact⟨rfl,rfl,Below.refl _ _⟩
 | cons x r=>
   obtain⟨b',off',hpe,hbw,x0,x1,x2,x3,xw⟩:=hv.head
   obtain⟨rfl,rfl⟩:b=b'∧off=off':=by simpa using hpe
   clear hpe
   have i0:(0:Int)<((x::r).length:Int):=by simp
   simp only[List.length_cons]at *
   cases e7:(x.op != 7)
   · have HN:Hid (pastV (f+1) (x::r)=none):=by show _=_;simp only[pastV];rw[if_neg (fun h=>by simp[h.1]at e7)]
     go_enter Tryz.func94,Tryz.ntmps94
     go_wp2_with fail
     refine(need_false _).mono ?_
     rintro e w3 ⟨rfl,rfl⟩
     go_wp2
     exact⟨rfl,by rw[HN.out];rfl,Below.refl _ _⟩
   · have HX:=fun w=>mayBe_any x w xw
     cases hx:ndOk x<;>rw[hx]at HX
     · have HN:Hid (pastV (f+1) (x::r)=none):=by show _=_;simp only[pastV];rw[if_neg (fun h=>by simp[h.2]at hx)]
       go_enter Tryz.func94,Tryz.ntmps94
       go_wp2_with fail
       refine(HX _).mono ?_
       rintro e w2 ⟨rfl,hb2⟩
       go_wp2_with fail
       refine(need_false _).mono ?_
       rintro e w3 ⟨rfl,rfl⟩
       go_wp2
       exact⟨rfl,by rw[HN.out];rfl,hb2⟩
     · have HN:Hid (pastV (f+1) (x::r)=if x.op=5 then setLoop (pastV f) x.n.toNat none r else if x.op=6 then recLoop (pastV f) x.n.toNat ⟨#[]⟩ r else some r):=by
        show _=_;simp only[pastV];rw[if_pos ⟨by simpa using e7,hx⟩]
       have hcnt:=ndOk_count hx
       have hnn:=xw.2.2
       have j1:(1:Int)≤(r.length:Int)+1:=by omega
       obtain⟨pr,hpr,hnr⟩:∃pr,(if c=1 then some (⟨b,off,none⟩:Addr)else some ⟨b,off+4,none⟩)=some ⟨b,pr,none⟩∧NL w (some ⟨b,pr,none⟩) r:=by
        by_cases h:c=1
        · exact⟨off,if_pos h,.inl (List.eq_nil_of_length_eq_zero (by omega))⟩
        · exact⟨off+4,if_neg h,hv.tail⟩
       have HPC:=Past_cons (n:=r.length) hpr (by omega)
       have hprH:Hid _:=hpr
       have hpv:∀v r,pastV f v=some r→IsTail r v:=fun v r e=>(pastV_shorter e).2
       go_enter Tryz.func94,Tryz.ntmps94
       go_wp2_with fail
       refine(HX _).mono ?_
       rintro e w2 ⟨rfl,hb2⟩
       have q:∀o,w2.cell? ⟨b,o,none⟩=w.cell? ⟨b,o,none⟩:=fun o=>hb2.cell (p:=⟨b,o,none⟩) hbw
       have z0:=(q off).trans x0
       have z1:=(q (off+1)).trans x1
       have hnr2:=hnr.up hb2
       have hbw2:=Nat.lt_of_lt_of_le hbw hb2.size
       clear q x0 x1 x2 x3
       go_wp2_with fail
       refine(need_true _).mono ?_
       rintro e w3 ⟨rfl,rfl⟩
       by_cases h5:x.op=5
       · have e5:(x.op == 5)=true:=by simpa using h5
         have HS:Hid (pastV (f+1) (x::r)=setLoop (pastV f) x.n.toNat none r):=by have:=HN.out;rw[if_pos h5]at this;exact this
         have hset:=fun wd (hbd:Below w3.heap.size w3 wd)=>pastSet_any f ih r b pr (c-1) x.n wd (by omega) (hnr2.up hbd) (by omega) (by unfold maxLen;omega) (hcnt (.inl h5)) hnn
         rw[HPC _ (fun r' h=>(setLoop_tail hpv _ _ _ _ h).length),←HS.out]at hset
         clear HN HS HX hcnt
         generalize hRe:pastV (f+1) (x::r)=R at hset
         have HRe:Hid (_=_):=hRe
         clear hRe
         go_wp2_with fail
         refine wp_region_still_tail 6 (by kernel_rfl) (by kernel_rfl) ?_
         change wpStill _ _ w3.drew (fun a'=>wpList _ _ _ _ a' w3.drew) _ _
         have hbd:Below w3.heap.size w3 w3.drew:=(Below.refl _ _).drew
         have hs:=hset _ hbd
         have z1':w3.drew.cell? ⟨b,off+1,none⟩=some (.int .i64 x.n):=z1
         have hb6:=hb2.trans (hbd.mono hb2.size)
         clear hset hb2 hbd z0 z1 hnr2 hbw2
         generalize w3.drew=wd at *
         simp only[List.take_succ_cons,List.take_zero,List.drop_succ_cons,List.drop_zero]
         repeat still_step
         refine wpStill_nil ?_
         go_wp2_with fail
         refine hs.mono ?_
         rintro e w4 ⟨rfl,hb4⟩
         have hb5:Below w.heap.size w w4:=hb6.trans (hb4.mono hb6.size)
         cases R with
         | none=>
           unfold Past
           go_wp2
           exact⟨rfl,by rw[HRe.out];rfl,hb5⟩
         | some r'=>
           unfold Past
           simp only[]
           go_wp2
           go_ret
           exact⟨by rw[HRe.out];rfl,hb5⟩
       · have e5:(x.op == 5)=false:=by simpa using h5
         by_cases h6:x.op=6
         · have e6:(x.op == 6)=true:=by simpa using h6
           have HS:Hid (pastV (f+1) (x::r)=recLoop (pastV f) x.n.toNat ⟨#[]⟩ r):=by have:=HN.out;rw[if_neg h5,if_pos h6]at this;exact this
           have hset:=fun wd (hbd:Below w3.heap.size w3 wd)=>pastRec_any f ih r b pr (c-1) x.n wd (by omega) (hnr2.up hbd) (Nat.lt_of_lt_of_le hbw2 hbd.size) (by omega) (by unfold maxLen;omega) (hcnt (.inr h6)) hnn
           rw[HPC _ (fun r' h=>(recLoop_tail hpv _ _ _ _ h).length),←HS.out]at hset
           clear HN HS HX hcnt
           generalize hRe:pastV (f+1) (x::r)=R at hset
           have HRe:Hid (_=_):=hRe
           clear hRe
           go_wp2_with fail
           refine wp_region_still_tail 6 (by kernel_rfl) (by kernel_rfl) ?_
           change wpStill _ _ w3.drew (fun a'=>wpList _ _ _ _ a' w3.drew) _ _
           have hbd:Below w3.heap.size w3 w3.drew:=(Below.refl _ _).drew
           have hs:=hset _ hbd
           have z1':w3.drew.cell? ⟨b,off+1,none⟩=some (.int .i64 x.n):=z1
           have hb6:=hb2.trans (hbd.mono hb2.size)
           clear hset hb2 hbd z0 z1 hnr2 hbw2
           generalize w3.drew=wd at *
           simp only[List.take_succ_cons,List.take_zero,List.drop_succ_cons,List.drop_zero]
           repeat still_step
           refine wpStill_nil ?_
           go_wp2_with fail
           refine hs.mono ?_
           rintro e w4 ⟨rfl,hb4⟩
           have hb5:Below w.heap.size w w4:=hb6.trans (hb4.mono hb6.size)
           cases R with
           | none=>
             unfold Past
             go_wp2
             exact⟨rfl,by rw[HRe.out];rfl,hb5⟩
           | some r'=>
             unfold Past
             simp only[]
             go_wp2
             go_ret
             exact⟨by rw[HRe.out];rfl,hb5⟩
         · have e6:(x.op == 6)=false:=by simpa using h6
           have HS:Hid (pastV (f+1) (x::r)=some r):=by have:=HN.out;rw[if_neg h5,if_neg h6]at this;exact this
           have HT:Hid (Value.slice (some ⟨b,pr,none⟩) r.length (c-1)=tailV b off c (r.length+1) r.length):=by
            show _=_;rw[←tailV_cons (n:=r.length) (m:=r.length) hpr (Nat.le_refl _) (by omega)];exact tailV_all.symm
           clear HN HX hcnt
           go_wp2
           go_ret
           exact⟨by rw[HS.out,HT.out];rfl,hb2⟩
theorem pastValue_any:∀f,PastOk f
 | 0=>fun v b off c w h=>absurd h (by omega)
 | f+1=>fun v b off c w h1 h2 h3 h4=>pastValue_step f (pastValue_any f) v b off c w h1 h2 h3 h4
theorem catch_idle (p:Addr)(w:World):
 CallsD Tryz.prog 92 #[.pointer (some p)] .returning w fun e u' w'=>e= .returned (.tuple #[])∧u'= .returning∧w'=w:=by
 refine callsD_of_wpS Tryz.func92 rfl fun c₀ cs hu=>?_
 apply wpS_seq
 apply wpS_region
 simp[wpOpsS,go_sem,recoverD,hu,Tryz.ntmps92,Exit.thenS]
 refine wpS_of_wp ?_
 go_wp2
 cases c₀
 simp_all [bodyPostS,results,Tryz.results92]
theorem catch_thrown (p:Addr)(w:World)(u:Value)(hc:w.cell? p=some u)(hz:w.frozen? p=false):
 CallsD Tryz.prog 92 #[.pointer (some p)] (.panicking thrown) w fun e u' w'=>e= .returned (.tuple #[])∧u'= .panicking [{ v:=.iface 33 (.int .i64 1),recovered:=true }]∧w'=w.setCell p (.iface 33 (.int .i64 1)):=by
 have hta:∀w:World,Sem.run Tryz.prog (Instr.typeAssert (.iface 33 (.int .i64 1)) 20 33 true) w= .ok (.tuple #[.int .i64 1,.bool true]) w:=fun _=>by kernel_rfl
 refine callsD_of_wpS Tryz.func92 rfl fun c₀ cs hu=>?_
 unfold thrown at hu
 apply wpS_seq
 apply wpS_region
 simp[wpOpsS,go_sem,recoverD,hu,Tryz.ntmps92,Exit.thenS]
 refine wpS_of_wp ?_
 go_wp2
 cases c₀
 simp_all [bodyPostS,results,Tryz.results92]
def NS (w:World)(v:List Nd)(x:Value):Prop:=∃p c,x= .slice p v.length c∧(v=[]∨p.isSome=true)∧NL w p v∧v.length≤c∧c≤maxLen
theorem pastValue_slice (v:List Nd)(p:Option Addr)(c:Nat)(w:World)(hv:NL w p v)(hc:v.length≤c)(hcm:c≤maxLen):
 Calls Tryz.prog 94 #[.slice p v.length c] w fun e w'=>(match pastV (v.length+1) v with | none=>e= .panicked thrown | some r=>∃q c',e= .returned (.slice q r.length c'))∧Below w.heap.size w w':=by
 cases v with
 | nil=>
   go_enter Tryz.func94,Tryz.ntmps94
   go_wp2_with fail
   refine(need_false _).mono ?_
   rintro e w3 ⟨rfl,rfl⟩
   go_wp2
   exact⟨rfl,rfl,Below.refl _ _⟩
 | cons x r=>
   obtain⟨b,off,rfl,hbw,_⟩:=hv.head
   refine(pastValue_any _ (x::r) b off c w (Nat.lt_succ_self _) hv hc hcm).mono ?_
   rintro e w' ⟨rfl,hb⟩
   refine⟨?_,hb⟩
   cases pastV ((x::r).length+1) (x::r)with
   | none=>rfl
   | some r'=>exact⟨_,_,rfl⟩
theorem walk_any (v:List Nd)(p:Option Addr)(c:Nat)(w:World)(hv:NL w p v)(hc:v.length≤c)(hcm:c≤maxLen):
 Calls Tryz.prog 81 #[.slice p v.length c] w fun e w'=>e= .returned (eV (if isVal v then 0 else 1))∧Below w.heap.size w w':=by
 generalize hn:(if isVal v then(0:Int)else 1)=n
 have HNN:Hid (_=_):=hn
 clear hn
 have hmf:∀(fn:Fn) (first cap:Array Value) (w:World),(Instr.makeFunc fn first cap).run Tryz.prog w= .ok (.func fn first cap) w:=fun _ _ _ _=>rfl
 have hp:=pastValue_slice v p c (w.alloc (.cells #[.nilIface] 25)) (hv.up ((Below.refl _ _).alloc (Nat.le_refl _) _)) hc hcm
 have hb0:Below w.heap.size w (w.alloc (.cells #[.nilIface] 25)):=(Below.refl _ _).alloc (Nat.le_refl _) _
 have hc0:(w.alloc (.cells #[.nilIface] 25)).cell? ⟨w.heap.size,0,none⟩=some .nilIface:=by simp[go_sem]
 have hz0:(w.alloc (.cells #[.nilIface] 25)).frozen? ⟨w.heap.size,0,none⟩=false:=by simp[go_sem]
 have hs0:w.heap.size<(w.alloc (.cells #[.nilIface] 25)).heap.size:=by simp
 cases hpv:pastV (v.length+1) v with
 | none=>
   rw[hpv]at hp
   have HV:Hid (isVal v=false):=by show _=_;unfold isVal;rw[hpv]
   clear hpv
   go_enter_defers Tryz.func81,Tryz.ntmps81
   go_wp2_with fail
   refine hp.mono ?_
   rintro e w1 ⟨rfl,hb⟩
   have hc1:=(hb.cell (p:=⟨w.heap.size,0,none⟩) hs0).trans hc0
   have hz1:=(hb.frozen (p:=⟨w.heap.size,0,none⟩) hs0).trans hz0
   go_wp2
   refine leaves_cons (f:=92) (args:= #[.pointer (some ⟨w.heap.size,0,none⟩)]) (by simp) (by simp[go_sem]) ?_
   refine(catch_thrown ⟨w.heap.size,0,none⟩ _ .nilIface hc1 hz1).mono ?_
   rintro e u' w'' ⟨rfl,rfl,rfl⟩
   have hb2:Below w.heap.size w (w1.setCell ⟨w.heap.size,0,none⟩ (.iface 33 (.int .i64 1))):=(hb0.trans (hb.mono hb0.size)).setCell (Nat.le_refl _) _
   obtain rfl:n=1:=by rw[←HNN.out,HV.out];rfl
   simp[Leaves,settle,results,Tryz.results81,go_sem,hc1]
   exact⟨rfl,hb2⟩
 | some r=>
   rw[hpv]at hp
   have HV:Hid (isVal v=r.isEmpty):=by show _=_;unfold isVal;rw[hpv]
   clear hpv
   cases r with
   | nil=>
     go_enter_defers Tryz.func81,Tryz.ntmps81
     go_wp2_with fail
     refine hp.mono ?_
     rintro e w1 ⟨⟨q,c',rfl⟩,hb⟩
     have hc1:=(hb.cell (p:=⟨w.heap.size,0,none⟩) hs0).trans hc0
     have hz1:=(hb.frozen (p:=⟨w.heap.size,0,none⟩) hs0).trans hz0
     go_wp2_with fail
     refine(need_true _).mono ?_
     rintro e w2 ⟨rfl,rfl⟩
     go_wp2
     refine leaves_cons (f:=92) (args:= #[.pointer (some ⟨w.heap.size,0,none⟩)]) (by simp) (by simp[go_sem]) ?_
     refine(catch_idle ⟨w.heap.size,0,none⟩ _).mono ?_
     rintro e u' w'' ⟨rfl,rfl,rfl⟩
     have hb2:Below w.heap.size w (w2.setCell ⟨w.heap.size,0,none⟩ .nilIface):=(hb0.trans (hb.mono hb0.size)).setCell (Nat.le_refl _) _
     obtain rfl:n=0:=by rw[←HNN.out,HV.out];rfl
     simp[Leaves,settle,results,Tryz.results81,go_sem,hc1]
     exact⟨rfl,hb2⟩
   | cons x r=>
     go_enter_defers Tryz.func81,Tryz.ntmps81
     go_wp2_with fail
     refine hp.mono ?_
     rintro e w1 ⟨⟨q,c',rfl⟩,hb⟩
     have hc1:=(hb.cell (p:=⟨w.heap.size,0,none⟩) hs0).trans hc0
     have hz1:=(hb.frozen (p:=⟨w.heap.size,0,none⟩) hs0).trans hz0
     have ne:((r.length:Int)+1 == 0)=false:=by simp;omega
     go_wp2_with fail
     refine(need_false _).mono ?_
     rintro e w2 ⟨rfl,rfl⟩
     go_wp2
     refine leaves_cons (f:=92) (args:= #[.pointer (some ⟨w.heap.size,0,none⟩)]) (by simp) (by simp[go_sem]) ?_
     refine(catch_thrown ⟨w.heap.size,0,none⟩ _ .nilIface hc1 hz1).mono ?_
     rintro e u' w'' ⟨rfl,rfl,rfl⟩
     have hb2:Below w.heap.size w (w2.setCell ⟨w.heap.size,0,none⟩ (.iface 33 (.int .i64 1))):=(hb0.trans (hb.mono hb0.size)).setCell (Nat.le_refl _) _
     obtain rfl:n=1:=by rw[←HNN.out,HV.out];rfl
     simp[Leaves,settle,results,Tryz.results81,go_sem,hc1]
     exact⟨rfl,hb2⟩
theorem vcheck_any (v:List Nd)(p:Option Addr)(c:Nat)(w:World)(hv:NL w p v)(hc:v.length≤c)(hcm:c≤maxLen):
 Calls Tryz.prog 57 #[.slice p v.length c] w fun e w'=>e= .returned (eV (vfault v))∧Below w.heap.size w w':=by
 by_cases h:200<v.length
 · have HF:Hid (vfault v=4):=by show _=_;unfold vfault;rw[if_pos h]
   have h':(200:Int)<(v.length:Int):=by omega
   go_enter Tryz.func57,Tryz.ntmps57
   go_wp2
   go_ret
   exact⟨by rw[HF.out];rfl,Below.refl _ _⟩
 · have HF:Hid (vfault v=if isVal v then 0 else 1):=by show _=_;unfold vfault;rw[if_neg h]
   have h':¬(200:Int)<(v.length:Int):=by omega
   go_enter Tryz.func57,Tryz.ntmps57
   go_wp2_with fail
   refine(walk_any v p c _ hv hc hcm).mono ?_
   rintro e w1 ⟨rfl,hb⟩
   rw[←HF.out]
   go_wp2
   go_ret
   exact⟨rfl,hb⟩
def exMay (x:Nd):Bool:= !(x.op == 7) && exOk x
def exCnt (x:Nd):Int:=if x.op=5∨x.op=6 then x.n else if x.op=7∨prt x<0 then 0 else prt x
theorem exMay_iff (x:Nd):exMay x=true↔x.op≠7∧exOk x=true:=by
 unfold exMay;rw[Bool.and_eq_true];simp
theorem exCnt_may {x:Nd}(h:exMay x=true):exCnt x=prt x:=by
 obtain⟨h7,hx⟩:=(exMay_iff x).1 h
 unfold exCnt
 by_cases h5:x.op=5∨x.op=6
 · rw[if_pos h5];unfold prt;rw[if_pos h5]
 · rw[if_neg h5]
   by_cases hp:prt x<0
   · exfalso
     unfold exOk at hx
     by_cases h1:1≤x.op∧x.op≤7
     · have:prt x=0:=by unfold prt;rw[if_neg h5,if_pos (by omega)]
       omega
     · rw[if_neg h1,if_pos hp]at hx;cases hx
   · rw[if_neg (by omega)]
theorem vfault_one {x:Nd}(h:1≤x.op∧x.op≤4):vfault [x]=if ndOk x then 0 else 1:=by
 have e:pastV 2 [x]=if ndOk x then some []else none:=by
  have h7:x.op≠7:=by omega
  have h5:¬x.op=5:=by omega
  have h6:¬x.op=6:=by omega
  simp only[pastV]
  cases hx:ndOk x
  · simp
  · simp[h7,h5,h6]
 unfold vfault isVal
 rw[if_neg (by simp),show[x].length+1=2 from rfl,e]
 cases ndOk x<;>rfl
theorem NL.single (W:World)(g:Nat)(x:Nd)(hx:x.wf)(hg:W.heap.size=g):NL (W.alloc (.cells #[.int .i64 x.op,.int .i64 x.n,.string x.s,.string x.t] 29)) (some ⟨g,0,none⟩) [x]:=by
 subst hg
 refine .inr ⟨W.heap.size,0,rfl,by simp,fun i y hy=>?_⟩
 rcases i with _ | i
 · simp at hy
   subst hy
   simp[go_sem,hx]
 · simp at hy
theorem vcheck_good (x:Nd)(h:1≤x.op∧x.op≤4)(hok:ndOk x=true)(g:Nat)(w:World)(hN:NL w (some ⟨g,0,none⟩) [x]):
 Calls Tryz.prog 57 #[.slice (some ⟨g,0,none⟩) 1 1] w fun e w'=>e= .returned .nilIface∧Below w.heap.size w w':=by
 have:=vcheck_any [x] (some ⟨g,0,none⟩) 1 w hN (by simp) (by unfold maxLen;omega)
 rw[vfault_one h,hok,if_pos rfl]at this
 exact this
theorem vcheck_none (x:Nd)(h:1≤x.op∧x.op≤4)(hok:ndOk x=false)(g:Nat)(w:World)(hN:NL w (some ⟨g,0,none⟩) [x]):
 Calls Tryz.prog 57 #[.slice (some ⟨g,0,none⟩) 1 1] w fun e w'=>e= .returned (.iface 33 (.int .i64 1))∧Below w.heap.size w w':=by
 have:=vcheck_any [x] (some ⟨g,0,none⟩) 1 w hN (by simp) (by unfold maxLen;omega)
 rw[vfault_one h,hok,if_neg (by simp)]at this
 exact this
theorem bel_two {w w1:World}{o1 o2:Obj}(hb:Below ((w.alloc o1).alloc o2).drew.heap.size ((w.alloc o1).alloc o2).drew w1):Below w.heap.size w w1:=
 ((((Below.refl _ _).alloc (Nat.le_refl _) o1).alloc (by simp) o2).drew).trans (hb.mono (by show w.heap.size≤((w.alloc o1).alloc o2).heap.size;simp;omega))
theorem ret_two {a b:Int}{c d:Bool}(h:a=b)(k:c=d):Ending.returned (.tuple #[.int .i64 a,.bool c])= .returned (.tuple #[.int .i64 b,.bool d]):=by rw[h,k]
set_option maxRecDepth 100000 in
theorem partsOf_value (x:Nd)(w:World)(hx:x.wf)(h:1≤x.op∧x.op≤4):
 Calls Tryz.prog 31 #[x.val] w fun e w'=>e= .returned (.tuple #[.int .i64 (exCnt x),.bool (exMay x)])∧Below w.heap.size w w':=by
 have HC:Hid (exCnt x=0):=by
  show _=_
  have hp:prt x=0:=by unfold prt;rw[if_neg (by omega),if_pos (by omega)]
  unfold exCnt
  rw[if_neg (by omega),hp]
  split<;>rfl
 have HM:Hid (exMay x=ndOk x):=by
  show _=_
  unfold exMay exOk
  rw[if_pos (by omega)]
  have:(x.op == 7)=false:=by simp;omega
  rw[this];rfl
 have HG:=vcheck_good x h
 have HB:=vcheck_none x h
 have HS:=fun W g=>NL.single W g x hx
 obtain⟨op,n,s,t⟩:=x
 unfold Nd.val
 simp only at HS
 have hop:op=1∨op=2∨op=3∨op=4:=by simp only at h;omega
 clear h
 cases hok:ndOk ⟨op,n,s,t⟩<;>rw[hok]at HM
 · have HV:=HB hok
   clear HG HB
   rcases hop with rfl | rfl | rfl | rfl
   all_goals
    go_enter Tryz.func31,Tryz.ntmps31
    go_wp2_with fail
    go_region_with (go_at_call 57;refine(HV (w.heap.size+1) _ ((HS _ _ (by simp)).up (Below.refl _ _).drew)).mono ?_;rintro e w1 ⟨rfl,hb⟩)
    all_goals
     go_wp2
     go_ret2
     exact⟨ret_two HC.out.symm HM.out.symm,bel_two hb⟩
 · have HV:=HG hok
   clear HG HB
   rcases hop with rfl | rfl | rfl | rfl
   all_goals
    go_enter Tryz.func31,Tryz.ntmps31
    go_wp2_with fail
    go_region_with (go_at_call 57;refine(HV (w.heap.size+1) _ ((HS _ _ (by simp)).up (Below.refl _ _).drew)).mono ?_;rintro e w1 ⟨rfl,hb⟩)
    all_goals
     go_wp2
     go_ret2
     exact⟨ret_two HC.out.symm HM.out.symm,bel_two hb⟩
theorem exMay_of {x:Nd}(h7:¬(1≤x.op∧x.op≤7))(hp:0≤prt x):exMay x=(justS x && (if x.op=8 then varOk x.s.data.toList else if x.op=21∨x.op=22∨x.op=24 then nfault x.s.data.toList == 0 else if x.op=23 then textOk x.s.data.toList else x.s.data.toList.isEmpty)):=by
 unfold exMay exOk justS
 rw[if_neg h7,if_neg (by omega)]
 have:(x.op == 7)=false:=by simp;omega
 rw[this,Bool.not_false,Bool.true_and]
theorem exCnt_of {x:Nd}(h7:¬(1≤x.op∧x.op≤7))(hp:0≤prt x):exCnt x=prt x:=by
 unfold exCnt
 rw[if_neg (by omega),if_neg (by omega)]
set_option maxRecDepth 100000 in
theorem partsOf_bare (x:Nd)(w:World)(hx:x.wf)(h:x.op=9∨x.op=10∨11≤x.op∧x.op≤20∨25≤x.op∧x.op≤27):
 Calls Tryz.prog 31 #[x.val] w fun e w'=>e= .returned (.tuple #[.int .i64 (exCnt x),.bool (exMay x)])∧Below w.heap.size w w':=by
 have hpp:prt x=if x.op=9∨x.op=10 then 1 else if x.op=13 then 3 else 2:=by
  unfold prt
  rw[if_neg (by omega),if_neg (by omega)]
  by_cases h9:x.op=9∨x.op=10
  · rw[if_pos (by omega),if_pos h9]
  · rw[if_neg (by omega),if_neg h9]
    split
    · rfl
    · rw[if_pos (by omega)]
 have hp:0≤prt x:=by rw[hpp];repeat' split<;>omega
 have HC:Hid (exCnt x=_):=(exCnt_of (by omega) hp).trans hpp
 have HM:Hid (exMay x=bare x):=by
  show _=_
  rw[exMay_of (by omega) hp,if_neg (by omega),if_neg (by omega),if_neg (by omega)]
  unfold justS bare
  cases (x.n == 0)<;>cases x.s.data.toList.isEmpty<;>cases x.t.data.toList.isEmpty<;>rfl
 have HN:=fun w=>hasNothing_any x w
 rw[←HM.out]at HN
 clear hpp hp HM
 generalize exMay x=m at *
 have HL:Hid (∀o w',Below (w.alloc o).heap.size (w.alloc o) w'→Below w.heap.size w w'):=fun o w' h=>((Below.refl _ _).alloc (Nat.le_refl _) _).trans (h.mono (by simp))
 obtain⟨op,n,s,t⟩:=x
 unfold Nd.val at *
 have hop:op=9∨op=10∨op=11∨op=12∨op=13∨op=14∨op=15∨op=16∨op=17∨op=18∨op=19∨op=20∨op=25∨op=26∨op=27:=by simp only at h;omega
 clear h
 rcases hop with rfl | rfl | rfl | rfl | rfl | rfl | rfl | rfl | rfl | rfl | rfl | rfl | rfl | rfl | rfl
 all_goals
  go_enter Tryz.func31,Tryz.ntmps31
  go_wp2_with fail
  refine(HN _).mono ?_
  rintro e w1 ⟨rfl,hb⟩
  go_wp2
  go_ret2
  exact⟨ret_two (by rw[HC.out];rfl) rfl,HL.out _ _ hb⟩
theorem boxs {w w':World}{x:Nd}{T:TypeId}(hb:Below (w.alloc (.cells #[.int .i64 x.op,.int .i64 x.n,.string x.s,.string x.t] T)).heap.size (w.alloc (.cells #[.int .i64 x.op,.int .i64 x.n,.string x.s,.string x.t] T)) w'):w'.cell? ⟨w.heap.size,2,none⟩=some (.string x.s):=
 (hb.cell (p:=⟨w.heap.size,2,none⟩) (by simp)).trans (by simp[go_sem])
set_option maxRecDepth 100000 in
theorem partsOf_named (x:Nd)(w:World)(hx:x.wf)(h:x.op=8∨21≤x.op∧x.op≤24):
 Calls Tryz.prog 31 #[x.val] w fun e w'=>e= .returned (.tuple #[.int .i64 (exCnt x),.bool (exMay x)])∧Below w.heap.size w w':=by
 have hpp:prt x=if x.op=8 then 0 else 1:=by
  unfold prt
  rw[if_neg (by omega)]
  by_cases h8:x.op=8
  · rw[if_pos (by omega),if_pos h8]
  · rw[if_neg (by omega),if_pos (by omega),if_neg h8]
 have hp:0≤prt x:=by rw[hpp];split<;>omega
 have HC:Hid (exCnt x=_):=(exCnt_of (by omega) hp).trans hpp
 have HM:Hid (exMay x=_):=exMay_of (by omega) hp
 have HJ:=fun w=>hasJustS_any x w
 have HV:=fun w=>isVar_any x.s w hx.1
 have HN:=fun w=>tName_any x.s w hx.1
 have HT:=fun w=>tText_any x.s w hx.1
 have HB:Hid (∀w',_→_):=fun w'=>boxs (w:=w) (w':=w') (x:=x) (T:=29)
 clear hpp hp
 generalize justS x=j at *
 generalize varOk x.s.data.toList=v1 at *
 generalize (nfault x.s.data.toList == 0)=v2 at *
 generalize textOk x.s.data.toList=v3 at *
 generalize exMay x=m at *
 have HL:Hid (∀o w',Below (w.alloc o).heap.size (w.alloc o) w'→Below w.heap.size w w'):=fun o w' h=>((Below.refl _ _).alloc (Nat.le_refl _) _).trans (h.mono (by simp))
 obtain⟨op,n,s,t⟩:=x
 unfold Nd.val at *
 simp only at HB HV HN HT HM
 have hop:op=8∨op=21∨op=22∨op=23∨op=24:=by simp only at h;omega
 clear h
 cases j
 · rcases hop with rfl | rfl | rfl | rfl | rfl
   all_goals
    have HM2:Hid (m=false):=HM.out
    clear HM
    go_enter Tryz.func31,Tryz.ntmps31
    go_wp2_with fail
    refine(HJ _).mono ?_
    rintro e w1 ⟨rfl,hb⟩
    go_wp2
    go_ret2
    exact⟨ret_two (by rw[HC.out];rfl) HM2.out.symm,HL.out _ _ hb⟩
 · rcases hop with rfl | rfl | rfl | rfl | rfl
   · have HM2:Hid (m=v1):=HM.out
     clear HM
     go_enter Tryz.func31,Tryz.ntmps31
     go_wp2_with fail
     refine(HJ _).mono ?_
     rintro e w1 ⟨rfl,hb⟩
     have hc:=HB.out _ hb
     go_wp2_with fail
     refine(HV _).mono ?_
     rintro e w2 ⟨rfl,rfl⟩
     go_wp2
     go_ret2
     exact⟨ret_two (by rw[HC.out];rfl) HM2.out.symm,HL.out _ _ hb⟩
   · have HM2:Hid (m=v2):=HM.out
     clear HM
     go_enter Tryz.func31,Tryz.ntmps31
     go_wp2_with fail
     refine(HJ _).mono ?_
     rintro e w1 ⟨rfl,hb⟩
     have hc:=HB.out _ hb
     go_wp2_with fail
     refine(HN _).mono ?_
     rintro e w2 ⟨rfl,rfl⟩
     go_wp2
     go_ret2
     exact⟨ret_two (by rw[HC.out];rfl) HM2.out.symm,HL.out _ _ hb⟩
   · have HM2:Hid (m=v2):=HM.out
     clear HM
     go_enter Tryz.func31,Tryz.ntmps31
     go_wp2_with fail
     refine(HJ _).mono ?_
     rintro e w1 ⟨rfl,hb⟩
     have hc:=HB.out _ hb
     go_wp2_with fail
     refine(HN _).mono ?_
     rintro e w2 ⟨rfl,rfl⟩
     go_wp2
     go_ret2
     exact⟨ret_two (by rw[HC.out];rfl) HM2.out.symm,HL.out _ _ hb⟩
   · have HM2:Hid (m=v3):=HM.out
     clear HM
     go_enter Tryz.func31,Tryz.ntmps31
     go_wp2_with fail
     refine(HJ _).mono ?_
     rintro e w1 ⟨rfl,hb⟩
     have hc:=HB.out _ hb
     go_wp2_with fail
     refine(HT _).mono ?_
     rintro e w2 ⟨rfl,hb2⟩
     have hb3:=hb.trans (hb2.mono hb.size)
     go_wp2
     go_ret2
     exact⟨ret_two (by rw[HC.out];rfl) HM2.out.symm,HL.out _ _ hb3⟩
   · have HM2:Hid (m=v2):=HM.out
     clear HM
     go_enter Tryz.func31,Tryz.ntmps31
     go_wp2_with fail
     refine(HJ _).mono ?_
     rintro e w1 ⟨rfl,hb⟩
     have hc:=HB.out _ hb
     go_wp2_with fail
     refine(HN _).mono ?_
     rintro e w2 ⟨rfl,rfl⟩
     go_wp2
     go_ret2
     exact⟨ret_two (by rw[HC.out];rfl) HM2.out.symm,HL.out _ _ hb⟩
set_option maxRecDepth 100000 in
theorem partsOf_many (x:Nd)(w:World)(hx:x.wf)(h:x.op=5∨x.op=6):
 Calls Tryz.prog 31 #[x.val] w fun e w'=>e= .returned (.tuple #[.int .i64 (exCnt x),.bool (exMay x)])∧Below w.heap.size w w':=by
 have HC:Hid (exCnt x=x.n):=if_pos h
 have HM:Hid (exMay x=(x.s.data.toList.isEmpty && x.t.data.toList.isEmpty && decide (0≤x.n))):=by
  show _=_
  unfold exMay exOk ndOk
  rw[if_pos (by omega),if_neg (by omega),if_neg (by omega),if_neg (by omega),if_neg (by omega),if_pos h]
  have:(x.op == 7)=false:=by simp;omega
  rw[this];rfl
 obtain⟨op,n,s,t⟩:=x
 simp only at HM
 unfold Nd.val
 have es:((s.toList == [])=s.data.toList.isEmpty):=by rw[ByteArray.toList_eq];cases s.data.toList<;>rfl
 have et:((t.toList == [])=t.data.toList.isEmpty):=by rw[ByteArray.toList_eq];cases t.data.toList<;>rfl
 have hop:op=5∨op=6:=h
 clear h
 have HL:Hid (∀(o:Obj) (m:Nat),Below w.heap.size w ((w.alloc o).drewN m)):=fun o m=>by
  have h:=(Below.refl w.heap.size w).alloc (Nat.le_refl _) o
  exact⟨h.os,h.tape,h.output,h.size,h.block⟩
 cases hse:s.data.toList.isEmpty<;>cases hte:t.data.toList.isEmpty<;>rw[hse,hte]at HM<;>rw[hse]at es<;>rw[hte]at et
 all_goals
  by_cases hn:0≤n
  · have hn2:decide (0≤n)=true:=by simpa using hn
    rw[hn2]at HM
    rcases hop with rfl | rfl
    all_goals
     go_enter Tryz.func31,Tryz.ntmps31
     go_wp2
     go_quiet (fail)
     go_wp2
     go_ret2
     exact⟨ret_two HC.out.symm HM.out.symm,HL.out _ _⟩
  · have hn2:decide (0≤n)=false:=by simpa using hn
    rw[hn2]at HM
    rcases hop with rfl | rfl
    all_goals
     go_enter Tryz.func31,Tryz.ntmps31
     go_wp2
     go_quiet (fail)
     go_wp2
     go_ret2
     exact⟨ret_two HC.out.symm HM.out.symm,HL.out _ _⟩
set_option maxRecDepth 100000 in
theorem partsOf_other (x:Nd)(w:World)(hx:x.wf)(h:x.op=7∨x.op<1∨27<x.op):
 Calls Tryz.prog 31 #[x.val] w fun e w'=>e= .returned (.tuple #[.int .i64 (exCnt x),.bool (exMay x)])∧Below w.heap.size w w':=by
 have HC:Hid (exCnt x=0):=by
  show _=_
  unfold exCnt
  rw[if_neg (by omega)]
  by_cases h7:x.op=7
  · rw[if_pos (.inl h7)]
  · have:prt x= -1:=by
     unfold prt
     rw[if_neg (by omega),if_neg (by omega),if_neg (by omega),if_neg (by omega),if_neg (by omega)]
    rw[this,if_pos (.inr (by omega))]
 have HM:Hid (exMay x=false):=by
  show _=_
  unfold exMay exOk
  by_cases h7:x.op=7
  · simp[h7]
  · have:prt x= -1:=by
     unfold prt
     rw[if_neg (by omega),if_neg (by omega),if_neg (by omega),if_neg (by omega),if_neg (by omega)]
    rw[if_neg (by omega),this,if_pos (by omega)];simp
 obtain⟨op,n,s,t⟩:=x
 unfold Nd.val
 have HL:Hid (∀o,Below w.heap.size w (w.alloc o)):=fun o=>(Below.refl _ _).alloc (Nat.le_refl _) _
 simp only at h
 have e:∀k:Int,1≤k→k≤27→k≠7→(op == k)=false:=fun k h1 h2 h3=>by simp;omega
 have e1:=e 1 (by omega) (by omega) (by omega)
 have e2:=e 2 (by omega) (by omega) (by omega)
 have e3:=e 3 (by omega) (by omega) (by omega)
 have e4:=e 4 (by omega) (by omega) (by omega)
 have e5:=e 5 (by omega) (by omega) (by omega)
 have e6:=e 6 (by omega) (by omega) (by omega)
 have e8:=e 8 (by omega) (by omega) (by omega)
 have e9:=e 9 (by omega) (by omega) (by omega)
 have e10:=e 10 (by omega) (by omega) (by omega)
 have e11:=e 11 (by omega) (by omega) (by omega)
 have e12:=e 12 (by omega) (by omega) (by omega)
 have e13:=e 13 (by omega) (by omega) (by omega)
 have e14:=e 14 (by omega) (by omega) (by omega)
 have e15:=e 15 (by omega) (by omega) (by omega)
 have e16:=e 16 (by omega) (by omega) (by omega)
 have e17:=e 17 (by omega) (by omega) (by omega)
 have e18:=e 18 (by omega) (by omega) (by omega)
 have e19:=e 19 (by omega) (by omega) (by omega)
 have e20:=e 20 (by omega) (by omega) (by omega)
 have e21:=e 21 (by omega) (by omega) (by omega)
 have e22:=e 22 (by omega) (by omega) (by omega)
 have e23:=e 23 (by omega) (by omega) (by omega)
 have e24:=e 24 (by omega) (by omega) (by omega)
 have e25:=e 25 (by omega) (by omega) (by omega)
 have e26:=e 26 (by omega) (by omega) (by omega)
 have e27:=e 27 (by omega) (by omega) (by omega)
 clear e h
 go_enter Tryz.func31,Tryz.ntmps31
 go_wp2
 go_ret2
 exact⟨ret_two HC.out.symm HM.out.symm,HL.out _⟩
theorem partsOf_any (x:Nd)(w:World)(hx:x.wf):
 Calls Tryz.prog 31 #[x.val] w fun e w'=>e= .returned (.tuple #[.int .i64 (exCnt x),.bool (exMay x)])∧Below w.heap.size w w':=by
 by_cases h1:1≤x.op∧x.op≤4
 · exact partsOf_value x w hx h1
 by_cases h2:x.op=5∨x.op=6
 · exact partsOf_many x w hx h2
 by_cases h3:x.op=7∨x.op<1∨27<x.op
 · exact partsOf_other x w hx h3
 by_cases h4:x.op=8∨21≤x.op∧x.op≤24
 · exact partsOf_named x w hx h4
 exact partsOf_bare x w hx (by omega)
def XE (n:Nat):Option (List Nd)→Value
 | none=>.tuple #[.int .i64 0,.bool false]
 | some r=>.tuple #[.int .i64 ((n-r.length:Nat):Int),.bool true]
def XOk (f:Nat):Prop:=∀(v:List Nd) (p:Option Addr) (c at_:Nat) (w:World),at_≤v.length→v.length-at_<f→NL w p v→v.length≤maxLen→
 Calls Tryz.prog 17 #[.slice p v.length c,.int .i64 at_] w fun e w'=>e= .returned (XE v.length (pastE f (v.drop at_)))∧Below w.heap.size w w'
theorem partsE_none {pv:List Nd→Option (List Nd)}{n k:Nat}(h:k<n){v:List Nd}(e:pv v=none):partsE pv (n-k) v=none:=by
 rw[show n-k=(n-(k+1))+1 by omega];simp only[partsE,e]
theorem partsE_some {pv:List Nd→Option (List Nd)}{n k:Nat}(h:k<n){v rest:List Nd}(e:pv v=some rest):partsE pv (n-k) v=partsE pv (n-(k+1)) rest:=by
 rw[show n-k=(n-(k+1))+1 by omega];simp only[partsE,e]
theorem tail_drop {v rest:List Nd}{k:Nat}(ht:IsTail rest (v.drop k)):v.drop (v.length-rest.length)=rest:=by
 obtain⟨a,ha⟩:=ht
 have hl:v.length-k=a.length+rest.length:=by have:=congrArg List.length ha;simpa using this
 by_cases h:k≤v.length
 · rw[show v.length-rest.length=k+a.length by omega,←List.drop_drop,ha,List.drop_left]
 · have h1:rest.length=0:=by omega
   have h2:=List.eq_nil_of_length_eq_zero h1
   subst h2
   simp
theorem pastParts_any (f:Nat)(ih:XOk f)(v:List Nd)(p:Option Addr)(c at0:Nat)(cnt:Int)(w:World)(hat0:at0≤v.length)(hf:v.length-at0<f)(hv:NL w p v)(hl:v.length≤maxLen)(hcn:cnt≤9223372036854775807):
 Calls Tryz.prog 33 #[.slice p v.length c,.int .i64 at0,.int .i64 cnt] w fun e w'=>e= .returned (XE v.length (partsE (pastE f) cnt.toNat (v.drop at0)))∧Below w.heap.size w w':=by
 have HM:Hid (v.length≤maxLen):=hl
 unfold maxLen at hl
 generalize hR:partsE (pastE f) cnt.toNat (v.drop at0)=R
 have HR:Hid (_=_):=hR
 clear hR
 have HI:Hid (XOk f):=ih
 clear ih
 go_enter Tryz.func33,Tryz.ntmps33
 go_wp2
 go_loopw [1,11] (fun sa i wr=>∃k at_:Nat,k≤cnt.toNat∧i= .int .i64 k∧sa= .int .i64 at_∧at0≤at_∧at_≤v.length∧Hid (partsE (pastE f) (cnt.toNat-k) (v.drop at_)=R)∧Below w.heap.size w wr) (fun _ i _=>cnt.toNat-(intOf i).toNat)
 case atStart=>exact⟨0,at0,Nat.zero_le _,rfl,rfl,Nat.le_refl _,hat0,HR,Below.refl _ _⟩
 case round=>
  obtain⟨k,at_,hk,rfl,rfl,h01,hat,HS,hb⟩:=hrel
  by_cases hlt:(k:Int)<cnt
  · have hkn:k<cnt.toNat:=by omega
    have hc:=HI.out v p c at_ wr hat (by omega) (hv.up hb) HM.out
    cases hp:pastE f (v.drop at_)with
    | none=>
      rw[hp]at hc
      have HN:Hid (none=R):=by rw[←HS.out,partsE_none hkn hp];rfl
      clear hp HS HR
      unfold XE at hc
      simp only[]at hc
      go_wp2_with fail
      refine hc.mono ?_
      rintro e w1 ⟨rfl,hb1⟩
      go_wp2
      go_ret2
      exact⟨by rw[←HN.out];rfl,hb.trans (hb1.mono hb.size)⟩
    | some rest=>
      rw[hp]at hc
      obtain⟨hsh,htl⟩:=pastE_shorter hp
      have hsh2:rest.length<v.length-at_:=by simpa using hsh
      have HN:Hid (partsE (pastE f) (cnt.toNat-(k+1)) (v.drop (v.length-rest.length))=R):=by rw[tail_drop htl,←HS.out,partsE_some hkn hp];rfl
      clear hp HS HR hsh htl
      unfold XE at hc
      simp only[]at hc
      generalize hen:v.length-rest.length=en at *
      have hen1:at_<en:=by omega
      have hen2:en≤v.length:=by omega
      clear hen hsh2
      go_wp2_with fail
      refine hc.mono ?_
      rintro e w1 ⟨rfl,hb1⟩
      go_wp2
      go_roundw
      case rel=>exact⟨k+1,en,by omega,by go_num,rfl,by omega,hen2,HN,hb.trans (hb1.mono hb.size)⟩
      case measure=>simp[intOf];omega
  · have HN:Hid (some (v.drop at_)=R):=by
     have:=HS.out
     rw[show cnt.toNat-k=0 by omega]at this
     exact this
    have HE:Hid (v.length-(v.drop at_).length=at_):=by show _=_;simp;omega
    clear HS HR
    go_wp2
    go_ret2
    exact⟨by rw[←HN.out];unfold XE;simp only[];rw[HE.out];rfl,hb⟩
theorem recLoopE_nil {pv:List Nd→Option (List Nd)}{n k:Nat}(h:k<n){last:ByteArray}:recLoop pv (n-k) last []=none:=by
 rw[show n-k=(n-(k+1))+1 by omega];rfl
theorem recLoopE_bad {pv:List Nd→Option (List Nd)}{n k:Nat}(h:k<n){last:ByteArray}{x:Nd}{r:List Nd}(e:¬(x.op=7∧ndOk x=true∧cmpB last x.s<0)):recLoop pv (n-k) last (x::r)=none:=by
 rw[show n-k=(n-(k+1))+1 by omega];simp only[recLoop,if_neg e]
theorem recLoopE_go {pv:List Nd→Option (List Nd)}{n k:Nat}(h:k<n){last:ByteArray}{x:Nd}{r:List Nd}(e:x.op=7∧ndOk x=true∧cmpB last x.s<0):
 recLoop pv (n-k) last (x::r)=match pv r with | none=>none | some rest=>recLoop pv (n-(k+1)) x.s rest:=by
 rw[show n-k=(n-(k+1))+1 by omega];simp only[recLoop,if_pos e];cases pv r<;>rfl
theorem leq_no {a b:ByteArray}(h:cmpB b a<0):Op.bytesLess a.toList b.toList=false∧(a.toList == b.toList)=false:=by
 rw[bytesLess_cb,ByteArray.toList_eq,ByteArray.toList_eq]
 have h1:=cmpB_is.neg a b
 refine⟨?_,?_⟩
 · rw[decide_eq_false_iff_not]
   show ¬cmpB a b<0
   omega
 · rw[beq_eq_false_iff_ne]
   intro e
   rw[bytes_inj e,cmpB_is.self]at h
   omega
theorem leq_yes {a b:ByteArray}(h:¬cmpB b a<0):Op.bytesLess a.toList b.toList=true∨(Op.bytesLess a.toList b.toList=false∧(a.toList == b.toList)=true):=by
 rw[bytesLess_cb,ByteArray.toList_eq,ByteArray.toList_eq]
 have h1:=cmpB_is.neg a b
 by_cases h0:cmpB a b<0
 · exact .inl (decide_eq_true h0)
 · refine .inr ⟨decide_eq_false h0,?_⟩
   rw[beq_iff_eq]
   have:a=b:=(cmpB_is.zero a b).1 (by omega)
   rw[this]
theorem drop_cons' {v:List Nd}{k:Nat}(h:k<v.length):v.drop k=v[k]::v.drop (k+1):=List.drop_eq_getElem_cons h
set_option maxRecDepth 100000 in
theorem pastFields_any (f:Nat)(ih:XOk f)(v:List Nd)(p:Option Addr)(c at0:Nat)(cnt:Int)(w:World)(hat0:at0≤v.length)(hf:v.length-at0<f)(hv:NL w p v)(hl:v.length≤maxLen)(hcn:cnt≤9223372036854775807):
 Calls Tryz.prog 32 #[.slice p v.length c,.int .i64 at0,.int .i64 cnt] w fun e w'=>e= .returned (XE v.length (recLoop (pastE f) cnt.toNat ⟨#[]⟩ (v.drop at0)))∧Below w.heap.size w w':=by
 have HM:Hid (v.length≤maxLen):=hl
 unfold maxLen at hl
 generalize hR:recLoop (pastE f) cnt.toNat ⟨#[]⟩ (v.drop at0)=R
 have HR:Hid (_=_):=hR
 clear hR
 have HI:Hid (XOk f):=ih
 clear ih
 go_enter Tryz.func32,Tryz.ntmps32
 go_wp2
 go_loopw [1,8,12] (fun sa sl i wr=>∃(k at_:Nat) (last:ByteArray),k≤cnt.toNat∧i= .int .i64 k∧sa= .int .i64 at_∧sl= .string last∧at0≤at_∧at_≤v.length∧Hid (recLoop (pastE f) (cnt.toNat-k) last (v.drop at_)=R)∧Below w.heap.size w wr) (fun _ _ i _=>cnt.toNat-(intOf i).toNat)
 case atStart=>exact⟨0,at0,⟨#[]⟩,Nat.zero_le _,rfl,rfl,rfl,Nat.le_refl _,hat0,HR,Below.refl _ _⟩
 case round=>
  obtain⟨k,at_,last,hk,rfl,rfl,rfl,h01,hat,HS,hb⟩:=hrel
  have hvr:=hv.up hb
  by_cases hlt:(k:Int)<cnt
  · have hkn:k<cnt.toNat:=by omega
    by_cases halt:at_<v.length
    · have hdr:=drop_cons' halt
      obtain⟨b,off,rfl,hbw,x0,x1,x2,x3,xw⟩:=hvr.at halt
      rw[hdr]at HS
      clear hdr
      generalize v[at_]=x at *
      have i1:(at_:Int)<(v.length:Int):=by omega
      have HF:=fun w=>tField_any x w xw
      have i2:¬v.length≤at_:=by omega
      cases hfd:(x.op == 7 && ndOk x)
      · rw[hfd]at HF
        have HN:Hid (none=R):=by
         rw[←HS.out,recLoopE_bad hkn (fun h=>by simp[h.1,h.2.1]at hfd)];rfl
        clear HS HR hfd
        go_wp2_with fail
        refine(HF _).mono ?_
        rintro e w1 ⟨rfl,hb1⟩
        go_wp2
        go_ret2
        exact⟨by rw[←HN.out];rfl,hb.trans (hb1.mono hb.size)⟩
      · rw[hfd]at HF
        have hfd2:x.op=7∧ndOk x=true:=by simpa using hfd
        by_cases hlt0:¬cmpB last x.s<0
        · have HN:Hid (none=R):=by
           rw[←HS.out,recLoopE_bad hkn (fun h=>hlt0 h.2.2)];rfl
          have hbl:=leq_yes hlt0
          clear HS HR hfd hfd2 hlt0
          rcases hbl with hbl | ⟨hbl,hbl2⟩
          all_goals
           go_wp2_with fail
           refine(HF _).mono ?_
           rintro e w1 ⟨rfl,hb1⟩
           have z2:=(hb1.cell (p:=⟨b,off+at_*4+2,none⟩) hbw).trans x2
           clear x0 x1 x2 x3
           go_wp2
           go_ret2
           exact⟨by rw[←HN.out];rfl,hb.trans (hb1.mono hb.size)⟩
        · have hlt0:=Decidable.not_not.1 hlt0
          have HN:=(recLoopE_go (pv:=pastE f) (r:=v.drop (at_+1)) hkn ⟨hfd2.1,hfd2.2,hlt0⟩).symm.trans HS.out
          obtain⟨hbl,hbl2⟩:=leq_no hlt0
          have hcall:=fun w1 (hb1:Below wr.heap.size wr w1)=>HI.out v (some ⟨b,off,none⟩) c (at_+1) w1 (by omega) (by omega) (hvr.up hb1) HM.out
          rw[show((at_+1:Nat):Int)=(at_:Int)+1 by omega]at hcall
          clear HS HR hfd hfd2 hlt0
          cases hp:pastE f (v.drop (at_+1))with
          | none=>
            rw[hp]at hcall HN
            have HN2:Hid (none=R):=HN
            unfold XE at hcall
            simp only[]at hcall
            clear HN hp
            go_wp2_with fail
            refine(HF _).mono ?_
            rintro e w1 ⟨rfl,hb1⟩
            have z2:=(hb1.cell (p:=⟨b,off+at_*4+2,none⟩) hbw).trans x2
            have hc1:=hcall _ hb1
            clear x0 x1 x2 x3 hcall
            go_wp2_with fail
            refine hc1.mono ?_
            rintro e w2 ⟨rfl,hb2⟩
            have hb3:=hb1.trans (hb2.mono hb1.size)
            go_wp2
            go_ret2
            exact⟨by rw[←HN2.out];rfl,hb.trans (hb3.mono hb.size)⟩
          | some rest=>
            rw[hp]at hcall HN
            obtain⟨hsh,htl⟩:=pastE_shorter hp
            have hsh2:rest.length<v.length-(at_+1):=by simpa using hsh
            have HN2:Hid (recLoop (pastE f) (cnt.toNat-(k+1)) x.s (v.drop (v.length-rest.length))=R):=by rw[tail_drop htl];exact HN
            unfold XE at hcall
            simp only[]at hcall
            generalize hen:v.length-rest.length=en at *
            have hen1:at_<en:=by omega
            have hen2:en≤v.length:=by omega
            clear HN hp hsh htl hen hsh2
            go_wp2_with fail
            refine(HF _).mono ?_
            rintro e w1 ⟨rfl,hb1⟩
            have z2:=(hb1.cell (p:=⟨b,off+at_*4+2,none⟩) hbw).trans x2
            have hc1:=hcall _ hb1
            clear x0 x1 x2 x3 hcall
            go_wp2_with fail
            refine hc1.mono ?_
            rintro e w2 ⟨rfl,hb2⟩
            have z3:=(hb2.cell (p:=⟨b,off+at_*4+2,none⟩) (Nat.lt_of_lt_of_le hbw hb1.size)).trans z2
            have hb3:=hb1.trans (hb2.mono hb1.size)
            clear z2
            go_wp2
            go_roundw
            case rel=>exact⟨k+1,en,x.s,by omega,by go_num,rfl,rfl,by omega,hen2,HN2,hb.trans (hb3.mono hb.size)⟩
            case measure=>simp[intOf];omega
    · have i1:¬(at_:Int)<(v.length:Int):=by omega
      have i2:(v.length:Int)≤(at_:Int):=by omega
      have HN:Hid (none=R):=by
       have:=HS.out
       rw[List.drop_of_length_le (by omega),recLoopE_nil hkn]at this
       exact this
      clear HS HR
      go_wp2
      go_ret2
      exact⟨by rw[←HN.out];rfl,hb⟩
  · have HN:Hid (some (v.drop at_)=R):=by
     have:=HS.out
     rw[show cnt.toNat-k=0 by omega]at this
     exact this
    have HE:Hid (v.length-(v.drop at_).length=at_):=by show _=_;simp;omega
    clear HS HR
    go_wp2
    go_ret2
    exact⟨by rw[←HN.out];unfold XE;simp only[];rw[HE.out];rfl,hb⟩
set_option maxRecDepth 100000 in
theorem pastExpr_step (f:Nat)(ih:XOk f):XOk (f+1):=by
 intro v p c at_ w hat hf hv hl
 have HM:Hid (v.length≤maxLen):=hl
 unfold maxLen at hl
 by_cases halt:at_<v.length
 · have hdr:=drop_cons' halt
   obtain⟨b,off,rfl,hbw,x0,x1,x2,x3,xw⟩:=hv.at halt
   rw[hdr]
   clear hdr
   generalize v[at_]=x at *
   have i1:(at_:Int)<(v.length:Int):=by omega
   have HP:=fun w=>partsOf_any x w xw
   cases hm:exMay x
   · rw[hm]at HP
     have HN:Hid (pastE (f+1) (x::v.drop (at_+1))=none):=pastE_bad (fun h=>by rw[(exMay_iff x).2 h]at hm;cases hm)
     clear hm
     go_enter Tryz.func17,Tryz.ntmps17
     go_wp2_with fail
     refine(HP _).mono ?_
     rintro e w1 ⟨rfl,hb⟩
     go_wp2
     go_ret2
     exact⟨by rw[HN.out];rfl,hb⟩
   · rw[hm,exCnt_may hm]at HP
     obtain⟨h7,hx⟩:=(exMay_iff x).1 hm
     by_cases h6:x.op=6
     · have e6:(x.op == 6)=true:=by simpa using h6
       have HN:Hid (pastE (f+1) (x::v.drop (at_+1))=_):=pastE_rec h7 hx h6
       have hpn:prt x=x.n:=by unfold prt;rw[if_pos (.inr h6)]
       have hc:=fun w1 (hb1:Below w.heap.size w w1)=>pastFields_any f ih v (some ⟨b,off,none⟩) c (at_+1) (prt x) w1 (by omega) (by omega) (hv.up hb1) HM.out (by rw[hpn];exact xw.2.2)
       rw[hpn,←HN.out,show((at_+1:Nat):Int)=(at_:Int)+1 by omega]at hc
       rw[hpn]at HP
       clear hm h7 hx h6 HN hpn
       generalize pastE (f+1) (x::v.drop (at_+1))=R at *
       go_enter Tryz.func17,Tryz.ntmps17
       go_wp2_with fail
       refine(HP _).mono ?_
       rintro e w1 ⟨rfl,hb1⟩
       have z0:=(hb1.cell (p:=⟨b,off+at_*4,none⟩) hbw).trans x0
       have hc1:=hc _ hb1
       clear x0 x1 x2 x3 hc
       cases R with
       | none=>
         unfold XE at hc1
         simp only[]at hc1
         go_wp2_with fail
         refine hc1.mono ?_
         rintro e w2 ⟨rfl,hb2⟩
         go_wp2
         go_ret2
         exact⟨rfl,hb1.trans (hb2.mono hb1.size)⟩
       | some r=>
         unfold XE at hc1
         simp only[]at hc1
         generalize hen:v.length-r.length=en at *
         have HEN:Hid (_=_):=hen
         clear hen
         go_wp2_with fail
         refine hc1.mono ?_
         rintro e w2 ⟨rfl,hb2⟩
         go_wp2
         go_ret2
         exact⟨by unfold XE;simp only[];rw[HEN.out];rfl,hb1.trans (hb2.mono hb1.size)⟩
     · have e6:(x.op == 6)=false:=by simpa using h6
       have HN:Hid (pastE (f+1) (x::v.drop (at_+1))=_):=pastE_parts h7 hx h6
       have hc:=fun w1 (hb1:Below w.heap.size w w1)=>pastParts_any f ih v (some ⟨b,off,none⟩) c (at_+1) (prt x) w1 (by omega) (by omega) (hv.up hb1) HM.out (by have:=xw.2.2;unfold prt;repeat' split<;>omega)
       rw[←HN.out,show((at_+1:Nat):Int)=(at_:Int)+1 by omega]at hc
       clear hm h7 hx h6 HN
       generalize pastE (f+1) (x::v.drop (at_+1))=R at *
       generalize prt x=cn at *
       go_enter Tryz.func17,Tryz.ntmps17
       go_wp2_with fail
       refine(HP _).mono ?_
       rintro e w1 ⟨rfl,hb1⟩
       have z0:=(hb1.cell (p:=⟨b,off+at_*4,none⟩) hbw).trans x0
       have hc1:=hc _ hb1
       clear x0 x1 x2 x3 hc
       cases R with
       | none=>
         unfold XE at hc1
         simp only[]at hc1
         go_wp2_with fail
         refine hc1.mono ?_
         rintro e w2 ⟨rfl,hb2⟩
         go_wp2
         go_ret2
         exact⟨rfl,hb1.trans (hb2.mono hb1.size)⟩
       | some r=>
         unfold XE at hc1
         simp only[]at hc1
         generalize hen:v.length-r.length=en at *
         have HEN:Hid (_=_):=hen
         clear hen
         go_wp2_with fail
         refine hc1.mono ?_
         rintro e w2 ⟨rfl,hb2⟩
         go_wp2
         go_ret2
         exact⟨by unfold XE;simp only[];rw[HEN.out];rfl,hb1.trans (hb2.mono hb1.size)⟩
 · have i1:(v.length:Int)≤(at_:Int):=by omega
   have HN:Hid (pastE (f+1) (v.drop at_)=none):=by show _=_;rw[List.drop_of_length_le (by omega)];rfl
   go_enter Tryz.func17,Tryz.ntmps17
   go_wp2
   go_ret2
   exact⟨by rw[HN.out];rfl,Below.refl _ _⟩
theorem pastExpr_any:∀f,XOk f
 | 0=>fun v p c at_ w _ h=>absurd h (by omega)
 | f+1=>pastExpr_step f (pastExpr_any f)
theorem tcheck_any (v:List Nd)(p:Option Addr)(c:Nat)(w:World)(hv:NL w p v)(hl:v.length≤maxLen):
 Calls Tryz.prog 10 #[.slice p v.length c] w fun e w'=>e= .returned (eV (xfault v))∧Below w.heap.size w w':=by
 by_cases h:200<v.length
 · have HF:Hid (_=_):=xfault_long h
   have h':(200:Int)<(v.length:Int):=by omega
   go_enter Tryz.func10,Tryz.ntmps10
   go_wp2
   go_ret
   exact⟨by rw[HF.out];rfl,Below.refl _ _⟩
 · have h':¬(200:Int)<(v.length:Int):=by omega
   have hc:=pastExpr_any (v.length+1) v p c 0 w (Nat.zero_le _) (by omega) hv hl
   rw[List.drop_zero]at hc
   cases hp:pastE (v.length+1) v with
   | none=>
     rw[hp]at hc
     have HF:Hid (_=_):=xfault_bad h (by unfold isEx;rw[hp])
     unfold XE at hc
     simp only[]at hc
     clear hp h
     go_enter Tryz.func10,Tryz.ntmps10
     go_wp2_with fail
     refine hc.mono ?_
     rintro e w1 ⟨rfl,hb⟩
     go_wp2
     go_ret
     exact⟨by rw[HF.out];rfl,hb⟩
   | some r=>
     rw[hp]at hc
     have hsh:=(pastE_shorter hp).1
     unfold XE at hc
     simp only[]at hc
     cases r with
     | nil=>
       have HF:Hid (_=_):=xfault_ok h ((isEx_iff v).2 hp)
       rw[List.length_nil,Nat.sub_zero]at hc
       clear hp h hsh
       go_enter Tryz.func10,Tryz.ntmps10
       go_wp2_with fail
       refine hc.mono ?_
       rintro e w1 ⟨rfl,hb⟩
       go_wp2
       go_ret
       exact⟨by rw[HF.out];rfl,hb⟩
     | cons y r=>
       have HF:Hid (_=_):=xfault_bad h (by unfold isEx;rw[hp];rfl)
       generalize hen:v.length-(y::r).length=en at *
       have hne:((en:Int) != (v.length:Int))=true:=by
        rw[List.length_cons]at hen hsh
        simp;omega
       clear hp h hsh hen
       go_enter Tryz.func10,Tryz.ntmps10
       go_wp2_with fail
       refine hc.mono ?_
       rintro e w1 ⟨rfl,hb⟩
       go_wp2
       go_ret
       exact⟨by rw[HF.out];rfl,hb⟩
end Go.Proofs.YtgbljlabifpmgaaGreatDoor
