import Derived.Test.YtlnhaajjoplafaaGreatDoorT21
import Derived.Test.YtlnhaajjoplafaaGreatDoorT2
import Derived.Test.YtlnhaajjoplafaaGreatDoorT9
import Derived.Test.YtlnhaajjoplafaaGreatDoorT11
import Derived.Maps.OwnSet
import Derived.Sort.KeysCollected
import Derived.Test.YtlnhaajjoplafaaGreatDoorShelfKeys
set_option linter.unusedVariables false
set_option maxHeartbeats 12000000
namespace Go.Proofs.YtlnhaajjoplafaaGreatDoor
open Go.RowKit Go.Maps Go.WideMaps
theorem key_law:Keyed Tryz.prog 9:=string_keyed Tryz.underlying9
theorem zero_int (w:World):(zeroValue 3).run Tryz.prog w= .ok (.int .i64 0) w:=by kernel_rfl
structure PM (names:List ByteArray)(k:Nat)(D:DataW Unit):Prop where
 has:∀x:List UInt8,Maps.has D (.string x)=true↔∃y∈names.take k,y.data.toList=x
 place:∀(i:Nat) (hi:i<names.length),i<k→D.atKey (.string names[i].data.toList) (.lit (.int .i64 0))= .lit (.int .i64 i)
 size:Maps.size D=k
theorem PM.start (names:List ByteArray):PM names 0 (.map []):=
 ⟨fun x=>by simp[Maps.has],fun i _ h=>absurd h (by omega),rfl⟩
theorem PM.hasB {names:List ByteArray}{k:Nat}{D:DataW Unit}(h:PM names k D)(x:ByteArray):Maps.has D (.string x.data.toList)=seenB (names.take k) x:=by
 rw[Bool.eq_iff_iff,h.has,seenB_iff]
 exact⟨fun⟨y,hy,e⟩=>by rw[←bytes_inj e];exact hy,fun hx=>⟨x,hx,rfl⟩⟩
theorem PM.step {names:List ByteArray}{k:Nat}{D:DataW Unit}(h:PM names k D)(ht:Tidy D)(hk:k<names.length)(hn:seenB (names.take k) names[k]=false):PM names (k+1) (D.put (.string names[k].data.toList) (.lit (.int .i64 k))):=by
 have hno:Maps.has D (.string names[k].data.toList)=false:=by rw[h.hasB,hn]
 have hkl:WideAt.IsKeyLit (.string names[k].data.toList):=trivial
 refine⟨fun x=>?_,fun i hi hik=>?_,?_⟩
 · have htk:names.take (k+1)=names.take k++[names[k]]:=List.take_succ_eq_append_getElem hk
   rw[htk]
   by_cases e:x=names[k].data.toList
   · subst e
     rw[has_put_same ht.isMap hkl]
     exact⟨fun _=>⟨names[k],List.mem_append_right _ (List.mem_singleton.2 rfl),rfl⟩,fun _=>rfl⟩
   · rw[has_put_other (fun q=>e (by injection q)),h.has]
     constructor
     · rintro⟨y,hy,e1⟩
       exact⟨y,List.mem_append_left _ hy,e1⟩
     · rintro⟨y,hy,e1⟩
       rcases List.mem_append.1 hy with hy | hy
       · exact⟨y,hy,e1⟩
       · simp at hy
         subst hy
         exact absurd e1.symm e
 · by_cases e:i=k
   · subst e
     exact atKey_put_same ht.isMap hkl _ _
   · have hne:names[i].data.toList≠names[k].data.toList:=fun q=>by
      have hm:names[k]∈names.take k:=by
       rw[←bytes_inj q]
       exact List.mem_take_iff_getElem.2 ⟨i,by omega,rfl⟩
      rw[←seenB_iff,hn]at hm
      cases hm
     rw[atKey_put_other (fun q=>hne (by injection q))]
     exact h.place i hi (by omega)
 · rw[size_put ht,hno,h.size];rfl
theorem rfault_at {names:List ByteArray}{vs:List (List Nd)}(hl:names.length=vs.length)(k:Nat)(hk:k<names.length):
 rfault (names.take k) ((names.zip vs).drop k)=if nfault names[k].data.toList≠0 then nfault names[k].data.toList else if seenB (names.take k) names[k]then 6 else if vfault (vs[k]'(by omega))≠0 then vfault (vs[k]'(by omega))else rfault (names.take (k+1)) ((names.zip vs).drop (k+1)):=by
 have hz:k<(names.zip vs).length:=by simp;omega
 rw[List.drop_eq_getElem_cons hz,List.take_succ_eq_append_getElem hk]
 simp only[rfault,List.getElem_zip]
theorem ownsMap_below {H:Type}{P:Program}{k:TypeId}{R:Value→Option (DataW H×List MemPlace)}{w w':World}{b n:Nat}{D:DataW H}(h:w.ownsMap P k R b n D)(hb:Below w.heap.size w w'):w'.ownsMap P k R b n D:=by
 have hlt:=h.lt
 obtain⟨es,clock,h1,h2⟩:=h
 exact⟨es,clock,(hb.block b hlt).trans h1,h2⟩
def PlacesRet (w:World)(names:List ByteArray)(e:Ending):Prop:=∃b D,e= .returned (.tuple #[.map (some b),.nilIface])∧w.ownsMap Tryz.prog 9 (plainElem Tryz.prog 3) b names.length D∧PM names names.length D
set_option maxRecDepth 100000 in
theorem placesOf_ok (names:List ByteArray)(vs:List (List Nd))(p q:Option Addr)(c d:Nat)(w:World)(hn:TL w p names)(hv:LL w q vs)(hl:names.length=vs.length)(hsz:∀t∈names,t.size≤maxLen)(hle:names.length≤1099511627776)(h:rfault [] (names.zip vs)=0):
 Calls Tryz.prog 121 #[.slice p names.length c,.slice q vs.length d] w fun e w'=>PlacesRet w' names e∧Below w.heap.size w w':=by
 have hmm:= @run_makeMap Tryz.prog
 have HL:Hid (names.length=vs.length):=hl
 have HSZ:Hid (∀t∈names,t.size≤maxLen):=hsz
 have HZ:Hid (rfault (names.take 0) ((names.zip vs).drop 0)=0):=h
 clear h hsz hl
 go_enter Tryz.func121,Tryz.ntmps121
 go_wp2
 go_loopw [16] (fun i wr=>∃(k:Nat) (D:DataW Unit),k≤names.length∧i= .int .i64 k∧wr.ownsMap Tryz.prog 9 (plainElem Tryz.prog 3) w.heap.size k D∧Hid (PM names k D)∧Hid (rfault (names.take k) ((names.zip vs).drop k)=0)∧Below w.heap.size w wr) (fun i _=>names.length-(intOf i).toNat)
 case atStart=>exact⟨0,.map [],Nat.zero_le _,rfl,World.ownsMap_made _ _ _ _,PM.start _,HZ,(Below.refl _ _).alloc (Nat.le_refl _) _⟩
 case round=>
  obtain⟨k,D,hk,rfl,hown,HP,HR,hb⟩:=hrel
  by_cases hlt:k<names.length
  · have i1:(k:Int)<(names.length:Int):=by omega
    have hlt2:k<vs.length:=by rw[←HL.out];exact hlt
    have i2:(k:Int)<(vs.length:Int):=by omega
    obtain⟨nb,no,rfl,hnb,nc⟩:=(hn.up hb).at hlt
    obtain⟨vb,vo,q',c',rfl,hvb,vc,hnl,h1,h2⟩:=(hv.up hb).at hlt2
    have hs:names[k].size≤maxLen:=HSZ.out _ (List.getElem_mem _)
    have hr:=HR.out
    rw[rfault_at HL.out k hlt]at hr
    have hn0:nfault names[k].data.toList=0:=by
     by_cases e:nfault names[k].data.toList=0
     · exact e
     · rw[if_pos e]at hr;exact hr
    rw[if_neg (by rw[hn0];simp)]at hr
    have hsn:seenB (names.take k) names[k]=false:=by
     cases e:seenB (names.take k) names[k]
     · rfl
     · rw[e]at hr;simp at hr
    rw[if_neg (by rw[hsn];simp)]at hr
    have hv0:vfault vs[k]=0:=by
     by_cases e:vfault vs[k]=0
     · exact e
     · rw[if_pos e]at hr;exact hr
    rw[if_neg (by rw[hv0];simp)]at hr
    have HR2:Hid (rfault (names.take (k+1)) ((names.zip vs).drop (k+1))=0):=hr
    have hno:Maps.has D (.string names[k].data.toList)=false:=by rw[HP.out.hasB,hsn]
    have HP2:Hid (PM names (k+1) (D.put (.string names[k].data.toList) (.lit (.int .i64 k)))):=HP.out.step (hown.tidy key_law) hlt hsn
    have C1:=check_any names[k] wr hs
    have C2:=fun w' (hb':Below wr.heap.size wr w')=>vcheck_any vs[k] q' c' w' (hnl.up hb') h1 h2
    rw[eV_nil hn0]at C1
    rw[eV_nil hv0]at C2
    clear hr hn0 hsn hv0 HR HP hnl
    generalize names[k]=s at *
    generalize vs[k]=v at *
    have HOWN:Hid (wr.ownsMap Tryz.prog 9 (plainElem Tryz.prog 3) w.heap.size k D):=hown
    clear hown
    go_wp2_with fail
    refine C1.mono ?_
    rintro e w1 ⟨rfl,rfl⟩
    clear C1 nc
    go_wp2_with (at_lookup;(refine wpList_lookup_own_ok_int _ rfl _ _ 157 rfl 9 3 .i64 key_law Tryz.underlying157 Tryz.underlying3 (zero_int _) w.heap.size k D rfl HOWN.out _ _ rfl (keyOf_string_mk Tryz.underlying9 hs) ?_;intro cc hat hwc;rw[hno]))
    refine(C2 _ (Below.refl _ _)).mono ?_
    rintro e w2 ⟨rfl,hb2⟩
    have hb3:=hb.trans (hb2.mono hb.size)
    have HO2:Hid (w2.ownsMap Tryz.prog 9 (plainElem Tryz.prog 3) w.heap.size k D):=ownsMap_below HOWN.out hb2
    clear hat hwc HOWN C2 vc
    go_wp2_with (at_mapUpdate;refine wpList_mapUpdate_own _ rfl _ _ _ 157 rfl 9 3 key_law Tryz.underlying157 _ w.heap.size k D rfl HO2.out (by unfold maxLen;omega) _ _ _ rfl rfl (keyOf_string_mk Tryz.underlying9 hs) _ [] (plainElem_int Tryz.underlying3 (WalkArith.wf_i64 (by omega))) ?_;intro w3 hown3 hgrow)
    go_roundw
    case rel=>exact⟨k+1,_,by omega,by go_num,hown3,HP2,HR2,hb3.grown hgrow hb3.size (fun j hj=>by cases hj;exact Nat.le_refl _)⟩
    case measure=>simp[intOf];omega
  · have i1:¬(k:Int)<(names.length:Int):=by omega
    obtain rfl:k=names.length:=by omega
    have HOWN:Hid (wr.ownsMap Tryz.prog 9 (plainElem Tryz.prog 3) w.heap.size names.length D):=hown
    clear hown
    go_wp2
    go_ret2
    exact⟨⟨w.heap.size,D,rfl,HOWN.out,HP.out⟩,hb⟩
set_option maxRecDepth 100000 in
theorem placesOf_bad (names:List ByteArray)(vs:List (List Nd))(p q:Option Addr)(c d:Nat)(w:World)(hn:TL w p names)(hv:LL w q vs)(hl:names.length=vs.length)(hsz:∀t∈names,t.size≤maxLen)(hle:names.length≤1099511627776)(h:rfault [] (names.zip vs)≠0):
 Calls Tryz.prog 121 #[.slice p names.length c,.slice q vs.length d] w fun e w'=>e= .returned (.tuple #[.map none,eV (rfault [] (names.zip vs))])∧Below w.heap.size w w':=by
 have hmm:= @run_makeMap Tryz.prog
 have HL:Hid (names.length=vs.length):=hl
 have HSZ:Hid (∀t∈names,t.size≤maxLen):=hsz
 have HZ:Hid (rfault (names.take 0) ((names.zip vs).drop 0)=rfault [] (names.zip vs)):=rfl
 have HNZ:Hid (rfault [] (names.zip vs)≠0):=h
 generalize rfault [] (names.zip vs)=Z at *
 clear h hsz hl
 go_enter Tryz.func121,Tryz.ntmps121
 go_wp2
 go_loopw [16] (fun i wr=>∃(k:Nat) (D:DataW Unit),k≤names.length∧i= .int .i64 k∧wr.ownsMap Tryz.prog 9 (plainElem Tryz.prog 3) w.heap.size k D∧Hid (PM names k D)∧Hid (rfault (names.take k) ((names.zip vs).drop k)=Z)∧Below w.heap.size w wr) (fun i _=>names.length-(intOf i).toNat)
 case atStart=>exact⟨0,.map [],Nat.zero_le _,rfl,World.ownsMap_made _ _ _ _,PM.start _,HZ,(Below.refl _ _).alloc (Nat.le_refl _) _⟩
 case round=>
  obtain⟨k,D,hk,rfl,hown,HP,HR,hb⟩:=hrel
  by_cases hlt:k<names.length
  · have i1:(k:Int)<(names.length:Int):=by omega
    have hlt2:k<vs.length:=by rw[←HL.out];exact hlt
    have i2:(k:Int)<(vs.length:Int):=by omega
    obtain⟨nb,no,rfl,hnb,nc⟩:=(hn.up hb).at hlt
    obtain⟨vb,vo,q',c',rfl,hvb,vc,hnl,h1,h2⟩:=(hv.up hb).at hlt2
    have hs:names[k].size≤maxLen:=HSZ.out _ (List.getElem_mem _)
    have hr:=HR.out
    rw[rfault_at HL.out k hlt]at hr
    have C1:=check_any names[k] wr hs
    have HOWN:Hid (wr.ownsMap Tryz.prog 9 (plainElem Tryz.prog 3) w.heap.size k D):=hown
    clear HR
    by_cases hn0:nfault names[k].data.toList=0
    · rw[if_neg (by rw[hn0];simp)]at hr
      rw[eV_nil hn0]at C1
      cases hsn:seenB (names.take k) names[k]
      · rw[if_neg (by rw[hsn];simp)]at hr
        have hno:Maps.has D (.string names[k].data.toList)=false:=by rw[HP.out.hasB,hsn]
        have C2:=fun w' (hb':Below wr.heap.size wr w')=>vcheck_any vs[k] q' c' w' (hnl.up hb') h1 h2
        by_cases hv0:vfault vs[k]=0
        · rw[if_neg (by rw[hv0];simp)]at hr
          have HR2:Hid (rfault (names.take (k+1)) ((names.zip vs).drop (k+1))=Z):=hr
          have HP2:Hid (PM names (k+1) (D.put (.string names[k].data.toList) (.lit (.int .i64 k)))):=HP.out.step (hown.tidy key_law) hlt hsn
          rw[eV_nil hv0]at C2
          clear hr hn0 hsn hv0 HP hnl hown
          generalize names[k]=s at *
          generalize vs[k]=v at *
          go_wp2_with fail
          refine C1.mono ?_
          rintro e w1 ⟨rfl,rfl⟩
          clear C1 nc
          go_wp2_with (at_lookup;(refine wpList_lookup_own_ok_int _ rfl _ _ 157 rfl 9 3 .i64 key_law Tryz.underlying157 Tryz.underlying3 (zero_int _) w.heap.size k D rfl HOWN.out _ _ rfl (keyOf_string_mk Tryz.underlying9 hs) ?_;intro cc hat hwc;rw[hno]))
          refine(C2 _ (Below.refl _ _)).mono ?_
          rintro e w2 ⟨rfl,hb2⟩
          have hb3:=hb.trans (hb2.mono hb.size)
          have HO2:Hid (w2.ownsMap Tryz.prog 9 (plainElem Tryz.prog 3) w.heap.size k D):=ownsMap_below HOWN.out hb2
          clear hat hwc HOWN C2 vc
          go_wp2_with (at_mapUpdate;refine wpList_mapUpdate_own _ rfl _ _ _ 157 rfl 9 3 key_law Tryz.underlying157 _ w.heap.size k D rfl HO2.out (by unfold maxLen;omega) _ _ _ rfl rfl (keyOf_string_mk Tryz.underlying9 hs) _ [] (plainElem_int Tryz.underlying3 (WalkArith.wf_i64 (by omega))) ?_;intro w3 hown3 hgrow)
          go_roundw
          case rel=>exact⟨k+1,_,by omega,by go_num,hown3,HP2,HR2,hb3.grown hgrow hb3.size (fun j hj=>by cases hj;exact Nat.le_refl _)⟩
          case measure=>simp[intOf];omega
        · rw[if_pos hv0]at hr
          have HE:Hid (vfault vs[k]=Z):=hr
          have HEV:Hid (eV (vfault vs[k])= .iface 70 (.int .i64 (vfault vs[k]))):=eV_not hv0
          rw[eV_not hv0]at C2
          clear hr hn0 hsn hv0 HP hnl hown
          generalize names[k]=s at *
          generalize vs[k]=v at *
          generalize vfault v=z at *
          go_wp2_with fail
          refine C1.mono ?_
          rintro e w1 ⟨rfl,rfl⟩
          clear C1 nc
          go_wp2_with (at_lookup;(refine wpList_lookup_own_ok_int _ rfl _ _ 157 rfl 9 3 .i64 key_law Tryz.underlying157 Tryz.underlying3 (zero_int _) w.heap.size k D rfl HOWN.out _ _ rfl (keyOf_string_mk Tryz.underlying9 hs) ?_;intro cc hat hwc;rw[hno]))
          refine(C2 _ (Below.refl _ _)).mono ?_
          rintro e w2 ⟨rfl,hb2⟩
          have hb3:=hb.trans (hb2.mono hb.size)
          clear hat hwc HOWN C2 vc
          go_wp2
          go_ret2
          exact⟨by rw[←HE.out,HEV.out];rfl,hb3⟩
      · rw[if_pos hsn]at hr
        have HE:Hid (6=Z):=hr
        have hno:Maps.has D (.string names[k].data.toList)=true:=by rw[HP.out.hasB,hsn]
        clear hr hn0 hsn HP hnl hown
        generalize names[k]=s at *
        go_wp2_with fail
        refine C1.mono ?_
        rintro e w1 ⟨rfl,rfl⟩
        clear C1 nc
        go_wp2_with (at_lookup;(refine wpList_lookup_own_ok_int _ rfl _ _ 157 rfl 9 3 .i64 key_law Tryz.underlying157 Tryz.underlying3 (zero_int _) w.heap.size k D rfl HOWN.out _ _ rfl (keyOf_string_mk Tryz.underlying9 hs) ?_;intro cc hat hwc;rw[hno]))
        go_ret2
        exact⟨by rw[←HE.out];rfl,hb⟩
    · rw[if_pos hn0]at hr
      have HE:Hid (nfault names[k].data.toList=Z):=hr
      have HEV:Hid (eV (nfault names[k].data.toList)= .iface 70 (.int .i64 (nfault names[k].data.toList))):=eV_not hn0
      rw[eV_not hn0]at C1
      clear hr hn0 HP hnl hown HOWN
      generalize names[k]=s at *
      generalize nfault s.data.toList=z at *
      go_wp2_with fail
      refine C1.mono ?_
      rintro e w1 ⟨rfl,rfl⟩
      clear C1 nc
      go_wp2
      go_ret2
      exact⟨by rw[←HE.out,HEV.out];rfl,hb⟩
  · exfalso
    have:=HR.out
    rw[List.drop_of_length_le (by simp;omega)]at this
    exact HNZ.out this.symm
end Go.Proofs.YtlnhaajjoplafaaGreatDoor
namespace Go.Proofs.YtlnhaajjoplafaaGreatDoor
open Go.RowKit Go.Maps Go.Sort Go.Shelf
theorem sorts_in (m:Nat):AnyZ.SortsIn Tryz.prog Tryz.sortedS_ren Fence.wide m:=
 ⟨fun blk off cap ss W hH hblk hsz=>callsIn_wide.2 (AnyM.slices_Sort_string Tryz.sortS blk off cap ss W hH hblk hsz),
  fun p cap W=>callsIn_wide.2 (AnyM.slices_Sort_string_none Tryz.sortS p cap W)⟩
theorem keys_fn (mb:Option Nat)(W:World):Calls Tryz.prog 123 #[.map mb] W fun e w'=>e= .returned (.func (.func 164) #[] #[.pointer (some ⟨W.heap.size,0,none⟩)])∧w'=W.alloc (.cells #[.map mb] 157):=
 (callsIn_wide (n:=5)).1 (AnyZ.keys_in Tryz.keysM Fence.wide 5 trivial rfl mb W)
theorem sorted_fn {H:Type}(b nn:Nat)(D0:DataW H)(R:Value→Option (DataW H×List MemPlace))(w:World)(hown:w.ownsMap Tryz.prog 9 R b nn D0)(hmax:Maps.size D0≤maxLen)(hbytes:Maps.size D0*16≤140737488355328):
 Calls Tryz.prog 122 #[.func (.func 164) #[] #[.pointer (some ⟨w.heap.size,0,none⟩)]] (w.alloc (.cells #[.map (some b)] 157)) fun e w'=>∃(v:Value) (ss:List (List UInt8)),e= .returned v∧ss.Perm (strKeys D0)∧
  w'.ownsRow (w.alloc (.cells #[.map (some b)] 157)).heap.size 9 1 v ss.length ((ss.mergeSort (fun x y=>decide (x≤y))).map encStr)∧(v= .slice none 0 0↔ss=[])∧Below (w.alloc (.cells #[.map (some b)] 157)).heap.size (w.alloc (.cells #[.map (some b)] 157)) w':=by
 refine(callsIn_wide (n:=5)).1 ?_
 have hbl:=hown.lt
 have hseq:SeqGives Fence.wide 2 Tryz.prog 164 #[.pointer (some ⟨w.heap.size,0,none⟩)] encStr (fun ss=>ss.Perm (strKeys D0)) (Maps.size D0) (w.alloc (.cells #[.map (some b)] 157)):=
  AnyZ.keys_gives (ρ :=Tryz.keysM_ren) { Tryz.keysM with } Fence.wide _ trivial rfl (by omega) w.heap.size b nn D0 _ (by simp) (by simp) (by
   obtain⟨es,clock,hb,Ft,hs,hD⟩:=hown
   exact⟨es,clock,(Below.heap_alloc _ _ b hbl).trans hb,Ft,hs,hD⟩)
 exact AnyZ.sorted_in Tryz.sortedS Fence.wide 5 trivial trivial trivial trivial rfl (by omega) (sorts_in _) (enters_of Tryz.func64 (by kernel_rfl) rfl) 164 #[.pointer (some ⟨w.heap.size,0,none⟩)] trivial (enters_of Tryz.func164 (by kernel_rfl) rfl) _ _ hmax hbytes _ hseq
end Go.Proofs.YtlnhaajjoplafaaGreatDoor
namespace Go.Proofs.YtlnhaajjoplafaaGreatDoor
theorem cb_lt:∀(l m:List UInt8),Lib.compareBytes l m<0→l<m
 | [],[],h=>by simp[Lib.compareBytes]at h
 | [],_::_,_=>List.nil_lt_cons _ _
 | _::_,[],h=>by simp[Lib.compareBytes]at h
 | a::l,b::m,h=>by
   rw[cb_cons]at h
   rw[List.cons_lt_cons_iff]
   split at h
   · exact .inl ‹_›
   · split at h
     · exact absurd h (by decide)
     · rename_i h1 h2
       exact .inr ⟨UInt8.le_antisymm (UInt8.not_lt.1 h2) (UInt8.not_lt.1 h1),cb_lt l m h⟩
def keyL (p:Fd):List UInt8:=p.1.data.toList
theorem keys_sorted {ps:List Fd}(hnd:(ps.map Prod.fst).Nodup){ss:List (List UInt8)}(hp:ss.Perm (ps.map keyL)):ss.mergeSort (fun x y=>decide (x≤y))=(recS ps).map keyL:=by
 have tr:∀a b c:List UInt8,leB a b=true→leB b c=true→leB a c=true:=fun a b c h1 h2=>by simp only[leB,decide_eq_true_eq]at *; exact List.le_trans h1 h2
 have to:∀a b:List UInt8,(leB a b || leB b a)=true:=fun a b=>by simp only[leB,Bool.or_eq_true,decide_eq_true_eq];exact List.le_total a b
 refine List.Perm.eq_of_pairwise (le:=fun a b=>leB a b=true) (fun a b _ _ h1 h2=>?_) (List.pairwise_mergeSort tr to ss) ?_ (((List.mergeSort_perm ss leB).trans hp).trans ((perm_recS ps).map keyL).symm)
 · simp only[leB,decide_eq_true_eq]at h1 h2
   exact List.le_antisymm h1 h2
 · refine List.pairwise_map.2 ((strict_recS ps hnd).imp fun {a b} h=>?_)
   simp only[leB,decide_eq_true_eq]
   exact List.le_of_lt (cb_lt _ _ h)
end Go.Proofs.YtlnhaajjoplafaaGreatDoor
namespace Go.Proofs.YtlnhaajjoplafaaGreatDoor
open Go.RowKit Go.Maps Go.WideMaps
theorem recOf_len (n m:Nat)(p q:Option Addr)(c d:Nat)(w:World)(hl:n≠m)(h1:n≤maxLen)(h2:m≤maxLen):
 Calls Tryz.prog 84 #[.slice p n c,.slice q m d] w fun e w'=>e= .returned (.tuple #[.slice none 0 0,eV 1])∧w'=w:=by
 unfold maxLen at h1 h2
 have i0:((n:Int) != (m:Int))=true:=by simp;omega
 go_enter Tryz.func84,Tryz.ntmps84
 go_wp2
 go_ret2
 exact⟨rfl,rfl⟩
theorem recOf_bad (names:List ByteArray)(vs:List (List Nd))(p q:Option Addr)(c d:Nat)(w:World)(hn:TL w p names)(hv:LL w q vs)(hl:names.length=vs.length)(hsz:∀t∈names,t.size≤maxLen)(hle:names.length≤4294967296)(h:rfault [] (names.zip vs)≠0):
 Calls Tryz.prog 84 #[.slice p names.length c,.slice q vs.length d] w fun e w'=>e= .returned (.tuple #[.slice none 0 0,eV (rfault [] (names.zip vs))])∧Below w.heap.size w w':=by
 have H:=placesOf_bad names vs p q c d w hn hv hl hsz (by omega) h
 rw[eV_not h]at H ⊢
 have i0:((names.length:Int) != (vs.length:Int))=false:=by simp[hl]
 have HL:Hid (names.length=vs.length):=hl
 clear hl h
 go_enter Tryz.func84,Tryz.ntmps84
 go_wp2_with fail
 refine H.mono ?_
 rintro e w1 ⟨rfl,hb⟩
 go_wp2
 go_ret2
 exact⟨rfl,hb⟩
def RecRetV (w:World)(ps:List Fd)(e:Ending):Prop:=
 if (recN (recS ps)).length≤200 then ∃q c,e= .returned (.tuple #[.slice q (recN (recS ps)).length c,.nilIface])∧NL w q (recN (recS ps))∧(recN (recS ps)).length≤c∧c≤maxLen
 else e= .returned (.tuple #[.slice none 0 0,eV 4])
theorem ownsMap_kept {P:Program}{k:TypeId}{R:Value→Option (DataW Unit×List MemPlace)}{w w':World}{base b n:Nat}{D:DataW Unit}(h:w.ownsMap P k R b n D)(hb:Below base w w')(hlt:b<base):w'.ownsMap P k R b n D:=by
 obtain⟨es,clock,h1,h2⟩:=h
 exact⟨es,clock,(hb.block b hlt).trans h1,h2⟩
theorem lookup_place (w:World){ops:Array Oper}{rest:List Oper}{o:Oper}{a:Act}{Q:Exit→Act→World→Prop}(hg:o.guard=none)(m x:Operand)(hop:o.op=Op.lookup 157 m x false)
 (b n:Nat) (D:DataW Unit) (hm:a.eval m= .map (some b)) (hown:w.ownsMap Tryz.prog 9 (plainElem Tryz.prog 3) b n D) (s:ByteArray) (hx:a.eval x= .string s) (hs:s.size≤maxLen) (i:Nat)
 (hat0:D.atKey (.string s.data.toList) (.lit (.int .i64 0))= .lit (.int .i64 i)) (hK:wpList Tryz.prog ops Q rest (a.put o.dst (.int .i64 i)) w):wpList Tryz.prog ops Q (o::rest) a w:=
 wpList_lookup_own_int w hg m x 157 hop 9 3 .i64 key_law Tryz.underlying157 Tryz.underlying3 (zero_int _) b n D hm hown _ _ hx (keyOf_string_mk Tryz.underlying9 hs) (fun c hat _=>by
  rw[hat0]at hat
  injection hat with h1
  injection h1 with _ h2
  rw[←h2];exact hK)
set_option maxRecDepth 100000 in
theorem recOf_ok (names:List ByteArray)(vs:List (List Nd))(p q:Option Addr)(c d:Nat)(w:World)(hn:TL w p names)(hv:LL w q vs)(hl:names.length=vs.length)(hsz:∀t∈names,t.size≤maxLen)(hle:names.length≤4294967296)(h:rfault [] (names.zip vs)=0):
 Calls Tryz.prog 84 #[.slice p names.length c,.slice q vs.length d] w fun e w'=>RecRetV w' (names.zip vs) e∧Below w.heap.size w w':=by
 have H:=placesOf_ok names vs p q c d w hn hv hl hsz (by omega) h
 obtain⟨hok,_,hnd⟩:=(rfault_zero [] _).1 h
 have i0:((names.length:Int) != (vs.length:Int))=false:=by simp[hl]
 have HL:Hid (names.length=vs.length):=hl
 have HOK:Hid (∀p∈names.zip vs,nfault p.1.data.toList=0∧vfault p.2=0):=hok
 have HND:Hid (((names.zip vs).map Prod.fst).Nodup):=hnd
 have HSZ:Hid (∀t∈names,t.size≤maxLen):=hsz
 clear h hok hnd hsz
 go_enter Tryz.func84,Tryz.ntmps84
 clear hl
 go_wp2_with fail
 refine H.mono ?_
 rintro e w1 ⟨⟨mb,D,rfl,hown,hpm⟩,hb1⟩
 have hmsz:=hpm.size
 have HOWN:Hid (w1.ownsMap Tryz.prog 9 (plainElem Tryz.prog 3) mb names.length D):=hown
 have HPM:Hid (PM names names.length D):=hpm
 have HMLT:Hid (mb<w1.heap.size):=hown.lt
 clear H hown hpm
 go_wp2_with (at_len;refine wpList_len_own _ rfl _ 157 rfl 9 3 Tryz.underlying157 _ mb names.length D rfl HOWN.out ?_;rw[hmsz])
 have hzl:(names.zip vs).length=names.length:=by simp[HL.out]
 have hSl:(recS (names.zip vs)).length=names.length:=by rw[(perm_recS _).length_eq,hzl]
 have hst:ON (w1.alloc (.cells #[.int .i64 6,.int .i64 names.length,.string ⟨#[]⟩,.string ⟨#[]⟩] 47)) w1.heap.size (.slice (some ⟨w1.heap.size,0,none⟩) 1 1) (recK (recS (names.zip vs)) 0):=
  ⟨⟨rfl,.inr ⟨w1.heap.size,1,_,rfl,Nat.le_refl _,heap_alloc_new w1 _,Nat.le_refl _,by unfold maxLen;omega,rfl,by simp[recK,ncells,hSl]⟩⟩,fun x hx=>by simp[recK]at hx;subst hx;exact⟨Nat.zero_le _,Nat.zero_le _,by simp only;omega⟩⟩
 have HM2:Hid (_:Prop):=HOWN.out.alloc (.cells #[.int .i64 6,.int .i64 names.length,.string ⟨#[]⟩,.string ⟨#[]⟩] 47)
 have hb12:Below w1.heap.size w1 (w1.alloc (.cells #[.int .i64 6,.int .i64 names.length,.string ⟨#[]⟩,.string ⟨#[]⟩] 47)):=(Below.refl _ _).alloc (Nat.le_refl _) _
 have HKP:Hid (((names.zip vs).map keyL).Perm (strKeys D)):=by
  refine Collected.perm (left:=fun _=>false) ⟨?_,fun x=>?_⟩ HOWN.out key_law Tryz.underlying9 (fun _=>rfl)
  · have h1:=HND.out
    rw[show(names.zip vs).map keyL=((names.zip vs).map Prod.fst).map (fun t=>t.data.toList) by simp[keyL]]
    exact List.pairwise_map.2 (h1.imp fun {a b} hne e=>hne (bytes_inj e))
  · rw[HPM.out.has,List.take_length]
    constructor
    · intro hx
      obtain⟨pr,hpr,rfl⟩:=List.mem_map.1 hx
      exact⟨⟨pr.1,(List.of_mem_zip hpr).1,rfl⟩,rfl⟩
    · rintro⟨⟨y,hy,rfl⟩,_⟩
      obtain⟨i,hi,rfl⟩:=List.mem_iff_getElem.1 hy
      have hi2:i<(names.zip vs).length:=by rw[hzl];exact hi
      exact List.mem_map.2 ⟨(names.zip vs)[i],List.getElem_mem _,by simp[keyL]⟩
 generalize hw2:w1.alloc (.cells #[.int .i64 6,.int .i64 names.length,.string ⟨#[]⟩,.string ⟨#[]⟩] 47)=w2 at *
 have HMm:Hid (w2.ownsMap Tryz.prog 9 (plainElem Tryz.prog 3) mb names.length D):=HM2.out
 have HST:Hid (ON w2 w1.heap.size (.slice (some ⟨w1.heap.size,0,none⟩) 1 1) (recK (recS (names.zip vs)) 0)):=hst
 clear hw2 HM2 hst HOWN
 have HSO:=sorted_fn mb names.length D _ w2 HMm.out (by rw[hmsz];unfold maxLen;omega) (by rw[hmsz];omega)
 refine(keys_fn (some mb) w2).mono ?_
 rintro e w3 ⟨rfl,rfl⟩
 go_wp2_with fail
 refine HSO.mono ?_
 rintro e w4 ⟨kv,ss,rfl,hss,hrow,_,hb4'⟩
 have hb2a:Below w2.heap.size w2 (w2.alloc (.cells #[.map (some mb)] 157)):=(Below.refl _ _).alloc (Nat.le_refl _) _
 have hb24:=hb2a.trans (hb4'.mono hb2a.size)
 have hb14:=hb12.trans (hb24.mono hb12.size)
 rw[keys_sorted HND.out (hss.trans HKP.out.symm)]at hrow
 have hOT:OT w4 w1.heap.size kv ((recS (names.zip vs)).map Prod.fst):=by
  have h1:=ownsRow_base_a hrow (base':=w1.heap.size) (Nat.le_trans hb12.size hb2a.size)
  have h2:ss.length=((recS (names.zip vs)).map Prod.fst).length:=by
   rw[hss.length_eq,←HKP.out.length_eq,List.length_map,List.length_map,hzl,hSl]
  have h3:((recS (names.zip vs)).map keyL).map encStr=((recS (names.zip vs)).map Prod.fst).map Value.string:=by
   simp[keyL,encStr]
  rw[h3]at h1
  unfold OT Row1
  rw[List.length_map,←h2]
  exact h1
 have hON:=HST.out.below hb24
 have HON:Hid (ON w4 w1.heap.size (.slice (some ⟨w1.heap.size,0,none⟩) 1 1) (recK (recS (names.zip vs)) 0)):=hON
 have HOT:Hid (OT w4 w1.heap.size kv ((recS (names.zip vs)).map Prod.fst)):=hOT
 have HMB:Hid (mb<w1.heap.size):=HMLT.out
 have HM4:Hid (w4.ownsMap Tryz.prog 9 (plainElem Tryz.prog 3) mb names.length D):=ownsMap_below HMm.out hb24
 have HMEM:Hid (∀pr∈recS (names.zip vs),∃i,∃(h1:i<names.length) (h2:i<vs.length),names[i]=pr.1∧vs[i]=pr.2):=fun pr hpr=>by
  obtain⟨i,hi,e⟩:=List.mem_iff_getElem.1 ((perm_recS _).mem_iff.1 hpr)
  rw[hzl]at hi
  rw[List.getElem_zip]at e
  exact⟨i,hi,by rw[←HL.out];exact hi,by rw[←e],by rw[←e]⟩
 have HVAL:Hid (∀pr∈recS (names.zip vs),vfault pr.2=0∧pr.1.size≤maxLen):=fun pr hpr=>
  have hm:=(perm_recS _).mem_iff.1 hpr
  ⟨(HOK.out pr hm).2,HSZ.out _ (List.of_mem_zip hm).1⟩
 have HRET:Hid (∀w' e,RecRetV w' (names.zip vs) e=if (recN (recS (names.zip vs))).length≤200 then ∃q c,e= .returned (.tuple #[.slice q (recN (recS (names.zip vs))).length c,.nilIface])∧NL w' q (recN (recS (names.zip vs)))∧(recN (recS (names.zip vs))).length≤c∧c≤maxLen else e= .returned (.tuple #[.slice none 0 0,eV 4])):=fun _ _=>rfl
 obtain⟨kq,kc,rfl,hTL,hkc,hkm⟩:=hOT.texts
 have HTL:Hid (TL w4 kq ((recS (names.zip vs)).map Prod.fst)):=hTL
 rw[List.length_map,hSl]
 rw[List.length_map,hSl]at hkc
 have hn4:=hn.up (hb1.trans (hb14.mono hb1.size))
 have hv1:=hv.up hb1
 have hb04:=hb1.trans (hb14.mono hb1.size)
 clear hON hOT hTL hn hn4 hv HST HSO hrow hb4' hb2a hb24 HMm HKP hss HND HOK HSZ hmsz hzl hb12 i0
 generalize recS (names.zip vs)=S at *
 go_wp2
 go_loopw [8,34] (fun rv i wr=>∃k:Nat,k≤names.length∧i= .int .i64 k∧ON wr w1.heap.size rv (recK S k)∧Kept w1.heap.size 47 w4 wr) (fun _ i _=>names.length-(intOf i).toNat)
 case atStart=>exact⟨0,Nat.zero_le _,rfl,HON.out,Kept.refl _ _ _⟩
 case round=>
  obtain⟨k,hk,rfl,hon,hkept⟩:=hrel
  have hfl:(recK S k).length≤201*k+1:=by
   have h1:=fsize_short (S.take k) (fun pr hpr=>(isVal_past (HVAL.out pr (List.mem_of_mem_take hpr)).1).1)
   have h2:(recK S k).length=fsize (S.take k)+1:=by unfold recK;rw[List.length_cons,fsize_flat]
   have h3:(S.take k).length≤k:=by simp;omega
   have h4:201*(S.take k).length≤201*k:=Nat.mul_le_mul_left _ h3
   omega
  by_cases hlt:k<names.length
  · have i1:(k:Int)<(names.length:Int):=by omega
    have hltS:k<S.length:=by omega
    have hkt:=Row1.kept HOT.out hkept (by decide)
    obtain⟨kq',kc',ekv,hTL,_,_⟩:=OT.texts hkt
    obtain⟨rfl,rfl⟩:kq=kq'∧kc=kc':=by simpa using ekv
    obtain⟨tb,to,hkq,htb,tc⟩:=hTL.at (i:=k) (by simp;exact hltS)
    rw[List.getElem_map]at tc
    have hmem:S[k]∈S:=List.getElem_mem _
    obtain⟨i,hi1,hi2,en,ev⟩:=HMEM.out _ hmem
    obtain⟨hval,hss⟩:=HVAL.out _ hmem
    have hplace:=HPM.out.place i hi1 hi1
    rw[en]at hplace
    have HNX:Hid (recK S (k+1)=(recK S k++[⟨7,0,S[k].1,⟨#[]⟩⟩])++S[k].2):=recK_next hltS
    have hbw:Below w1.heap.size w1 wr:=hb14.trans hkept.bel
    obtain⟨vb,vo,q',c',hq,hvb,vc,hnl,h1,h2⟩:=hv1.at hi2
    rw[ev]at vc hnl h1
    have hM:=HM4.out
    have i2:(i:Int)<(vs.length:Int):=by omega
    generalize S[k]=pr at *
    obtain⟨s,v⟩:=pr
    simp only at *
    subst hkq hq
    obtain⟨y,t,rfl⟩:∃y t,v=y::t:=by obtain⟨y,t,e,_⟩:=value_head hval;exact⟨y,t,e⟩
    obtain⟨pb,po,rfl,hpb,_⟩:=hnl.head
    have HO1:Hid (ON wr w1.heap.size u8 (recK S k)):=hon
    have hba:Below wr.heap.size wr (wr.alloc (.cells #[.int .i64 7,.int .i64 0,.string s,.string ⟨#[]⟩] 47)):=(Below.refl _ _).alloc (Nat.le_refl _) _
    have HN1:Hid (NL (wr.alloc (.cells #[.int .i64 7,.int .i64 0,.string s,.string ⟨#[]⟩] 47)) (some ⟨wr.heap.size,0,none⟩) [⟨7,0,s,⟨#[]⟩⟩]):=NL.one wr s hss
    have HNL:Hid (NL w1 (some ⟨pb,po,none⟩) (y::t)):=hnl
    have HPL:Hid (D.atKey (.string s.data.toList) (.lit (.int .i64 0))= .lit (.int .i64 i)):=hplace
    have hvl:t.length≤199:=by have:=(isVal_past hval).1;simp only[List.length_cons]at this;omega
    have HKA:Hid (Kept w1.heap.size 47 w4 (wr.alloc (.cells #[.int .i64 7,.int .i64 0,.string s,.string ⟨#[]⟩] 47))):=hkept.trans (Kept.of_below hba hbw.size)
    have hsza:=hba.size
    have hwsz:=hbw.size
    clear hon hnl hplace hval hkt hTL ekv hmem ev en hM
    generalize hRK:recK S k=RK at *
    clear hRK
    go_wp2_with (first
     | (at_lookup;refine lookup_place w5 rfl _ _ rfl mb names.length D rfl HM5.out s rfl hss i HPL.out ?_)
     | (at_builtin;refine append_nodes _ rfl (.tmp 38) (.tmp 41) rfl w1.heap.size u8 RK rfl (HO1.out.below hba) [⟨7,0,s,⟨#[]⟩⟩] 1 rfl wr.heap.size 0 1 HN1.out rfl (by simp;omega) (by omega) ?_;intro v5 w5 hon5 hk5;have hk45:=HKA.out.trans hk5;have hb15:=hb14.trans hk45.bel;have vc5:=(hb15.cell (p:=⟨vb,vo+i,none⟩) hvb).trans vc;have HM5:Hid (w5.ownsMap Tryz.prog 9 (plainElem Tryz.prog 3) mb names.length D):=ownsMap_kept HM4.out hk45.bel HMB.out;have HO5:Hid (ON w5 w1.heap.size v5 (RK++[⟨7,0,s,⟨#[]⟩⟩])):=hon5;clear hon5)
     | (at_builtin;refine append_nodes w5 rfl (.tmp 43) (.tmp 49) rfl w1.heap.size v5 (RK++[⟨7,0,s,⟨#[]⟩⟩]) rfl HO5.out (y::t) _ rfl pb po c' (HNL.out.up hb15) rfl (by simp only[List.length_append,List.length_cons,List.length_nil];omega) hb15.size ?_;intro v6 w6 hon6 hk6))
    go_roundw
    case rel=>exact⟨k+1,by omega,by go_num,by rw[HNX.out];exact hon6,hk45.trans hk6⟩
    case measure=>simp[intOf];omega
  · have i1:¬(k:Int)<(names.length:Int):=by omega
    obtain rfl:k=names.length:=by omega
    rw[←hSl,recK_all]at hon
    obtain⟨g2,cap2,rfl,hg2,hgw2,hgc2,hgm2,hgn2,_⟩:=hon.slice (by simp[recN])
    have hbz:Below w.heap.size w wr:=hb1.trans ((hb14.trans hkept.bel).mono hb1.size)
    clear hon
    by_cases hfit:(recN S).length≤200
    · have hF:=fit_ok (recN S) (some ⟨g2,0,none⟩) cap2 wr hfit
      have HR:Hid (RecRetV wr (names.zip vs) (.returned (.tuple #[.slice (some ⟨g2,0,none⟩) (recN S).length cap2,.nilIface]))):=by
       show RecRetV _ _ _
       rw[HRET.out,if_pos hfit]
       exact⟨_,_,rfl,hgn2,hgc2,hgm2⟩
      generalize (recN S).length=len at *
      go_wp2_with fail
      refine hF.mono ?_
      rintro e w5 ⟨rfl,rfl⟩
      go_wp2
      go_ret2
      exact⟨HR.out,hbz⟩
    · have hF:=fit_full (recN S) (some ⟨g2,0,none⟩) cap2 wr (by omega)
      have HR:Hid (RecRetV wr (names.zip vs) (.returned (.tuple #[.slice none 0 0,eV 4]))):=by
       show RecRetV _ _ _
       rw[HRET.out,if_neg hfit]
      generalize (recN S).length=len at *
      go_wp2_with fail
      refine hF.mono ?_
      rintro e w5 ⟨rfl,rfl⟩
      go_wp2
      go_ret2
      exact⟨HR.out,hbz⟩
end Go.Proofs.YtlnhaajjoplafaaGreatDoor
