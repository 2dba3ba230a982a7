import Derived.Test.YtnbkfggmpiccjaaGreatDoorE27
import Derived.Test.YtnbkfggmpiccjaaGreatDoorE3
import Derived.Test.YtnbkfggmpiccjaaGreatDoorE11
import Derived.Test.YtnbkfggmpiccjaaGreatDoorE23
import Derived.Maps.OwnSet
import Derived.Sort.KeysCollected
set_option linter.unusedVariables false
set_option maxHeartbeats 12000000
namespace Go.Proofs.YtnbkfggmpiccjaaGreatDoor
open Go.RowKit Go.Maps Go.WideMaps
theorem key_law:Keyed Tryz.prog 9:=string_keyed Tryz.underlying9
theorem zero_int (w:World):(zeroValue 3).run Tryz.prog w= .ok (.int .i64 0) w:=by kernel_rfl
structure PM (names:List ByteArray)(k:Nat)(D:DataW Unit):Prop where
 has:∀x:List UInt8,Maps.has D (.string x)=true↔∃y∈names.take k,y.data.toList=x
 place:∀(i:Nat) (hi:i<names.length),i<k→D.atKey (.string names[i].data.toList) (.lit (.int .i64 0))= .lit (.int .i64 i)
 size:Maps.size D=k
theorem PM.start (names:List ByteArray):PM names 0 (.map []):=
 ⟨fun x=>by simp[Maps.has],fun i _ h=>absurd h (by omega),rfl⟩
theorem PM.hasB {names:List ByteArray}{k:Nat}{D:DataW Unit}(h:PM names k D)(x:ByteArray):Maps.has D (.string x.data.toList)=seenB (names.take k) x:=by
 rw[Bool.eq_iff_iff,h.has,seenB_iff]
 exact⟨fun⟨y,hy,e⟩=>by rw[←bytes_inj e];exact hy,fun hx=>⟨x,hx,rfl⟩⟩
theorem PM.step {names:List ByteArray}{k:Nat}{D:DataW Unit}(h:PM names k D)(ht:Tidy D)(hk:k<names.length)(hn:seenB (names.take k) names[k]=false):PM names (k+1) (D.put (.string names[k].data.toList) (.lit (.int .i64 k))):=by
 have hno:Maps.has D (.string names[k].data.toList)=false:=by rw[h.hasB,hn]
 have hkl:WideAt.IsKeyLit (.string names[k].data.toList):=trivial
 refine⟨fun x=>?_,fun i hi hik=>?_,?_⟩
 · have htk:names.take (k+1)=names.take k++[names[k]]:=List.take_succ_eq_append_getElem hk
   rw[htk]
   by_cases e:x=names[k].data.toList
   · subst e
     rw[has_put_same ht.isMap hkl]
     exact⟨fun _=>⟨names[k],List.mem_append_right _ (List.mem_singleton.2 rfl),rfl⟩,fun _=>rfl⟩
   · rw[has_put_other (fun q=>e (by injection q)),h.has]
     constructor
     · rintro⟨y,hy,e1⟩
       exact⟨y,List.mem_append_left _ hy,e1⟩
     · rintro⟨y,hy,e1⟩
       rcases List.mem_append.1 hy with hy | hy
       · exact⟨y,hy,e1⟩
       · simp at hy
         subst hy
         exact absurd e1.symm e
 · by_cases e:i=k
   · subst e
     exact atKey_put_same ht.isMap hkl _ _
   · have hne:names[i].data.toList≠names[k].data.toList:=fun q=>by
      have hm:names[k]∈names.take k:=by
       rw[←bytes_inj q]
       exact List.mem_take_iff_getElem.2 ⟨i,by omega,rfl⟩
      rw[←seenB_iff,hn]at hm
      cases hm
     rw[atKey_put_other (fun q=>hne (by injection q))]
     exact h.place i hi (by omega)
 · rw[size_put ht,hno,h.size];rfl
theorem rfault_at {names:List ByteArray}{vs:List (List Nd)}(hl:names.length=vs.length)(k:Nat)(hk:k<names.length):
 rfault (names.take k) ((names.zip vs).drop k)=if nfault names[k].data.toList≠0 then nfault names[k].data.toList else if seenB (names.take k) names[k]then 6 else if vfault (vs[k]'(by omega))≠0 then vfault (vs[k]'(by omega))else rfault (names.take (k+1)) ((names.zip vs).drop (k+1)):=by
 have hz:k<(names.zip vs).length:=by simp;omega
 rw[List.drop_eq_getElem_cons hz,List.take_succ_eq_append_getElem hk]
 simp only[rfault,List.getElem_zip]
theorem ownsMap_below {H:Type}{P:Program}{k:TypeId}{R:Value→Option (DataW H×List MemPlace)}{w w':World}{b n:Nat}{D:DataW H}(h:w.ownsMap P k R b n D)(hb:Below w.heap.size w w'):w'.ownsMap P k R b n D:=by
 have hlt:=h.lt
 obtain⟨es,clock,h1,h2⟩:=h
 exact⟨es,clock,(hb.block b hlt).trans h1,h2⟩
def PlacesRet (w:World)(names:List ByteArray)(e:Ending):Prop:=∃b D,e= .returned (.tuple #[.map (some b),.nilIface])∧w.ownsMap Tryz.prog 9 (plainElem Tryz.prog 3) b names.length D∧PM names names.length D
set_option maxRecDepth 100000 in
theorem placesOf_ok (names:List ByteArray)(vs:List (List Nd))(p q:Option Addr)(c d:Nat)(w:World)(hn:TL w p names)(hv:LL w q vs)(hl:names.length=vs.length)(hsz:∀t∈names,t.size≤maxLen)(hle:names.length≤1099511627776)(h:rfault [] (names.zip vs)=0):
 Calls Tryz.prog 146 #[.slice p names.length c,.slice q vs.length d] w fun e w'=>PlacesRet w' names e∧Below w.heap.size w w':=by
 have hmm:= @run_makeMap Tryz.prog
 have HL:Hid (names.length=vs.length):=hl
 have HSZ:Hid (∀t∈names,t.size≤maxLen):=hsz
 have HZ:Hid (rfault (names.take 0) ((names.zip vs).drop 0)=0):=h
 clear h hsz hl
 go_enter Tryz.func146,Tryz.ntmps146
 go_wp2
 go_loopw [16] (fun i wr=>∃(k:Nat) (D:DataW Unit),k≤names.length∧i= .int .i64 k∧wr.ownsMap Tryz.prog 9 (plainElem Tryz.prog 3) w.heap.size k D∧Hid (PM names k D)∧Hid (rfault (names.take k) ((names.zip vs).drop k)=0)∧Below w.heap.size w wr) (fun i _=>names.length-(intOf i).toNat)
 case atStart=>exact⟨0,.map [],Nat.zero_le _,rfl,World.ownsMap_made _ _ _ _,PM.start _,HZ,(Below.refl _ _).alloc (Nat.le_refl _) _⟩
 case round=>
  obtain⟨k,D,hk,rfl,hown,HP,HR,hb⟩:=hrel
  by_cases hlt:k<names.length
  · have i1:(k:Int)<(names.length:Int):=by omega
    have hlt2:k<vs.length:=by rw[←HL.out];exact hlt
    have i2:(k:Int)<(vs.length:Int):=by omega
    obtain⟨nb,no,rfl,hnb,nc⟩:=(hn.up hb).at hlt
    obtain⟨vb,vo,q',c',rfl,hvb,vc,hnl,h1,h2⟩:=(hv.up hb).at hlt2
    have hs:names[k].size≤maxLen:=HSZ.out _ (List.getElem_mem _)
    have hr:=HR.out
    rw[rfault_at HL.out k hlt]at hr
    have hn0:nfault names[k].data.toList=0:=by
     by_cases e:nfault names[k].data.toList=0
     · exact e
     · rw[if_pos e]at hr;exact hr
    rw[if_neg (by rw[hn0];simp)]at hr
    have hsn:seenB (names.take k) names[k]=false:=by
     cases e:seenB (names.take k) names[k]
     · rfl
     · rw[e]at hr;simp at hr
    rw[if_neg (by rw[hsn];simp)]at hr
    have hv0:vfault vs[k]=0:=by
     by_cases e:vfault vs[k]=0
     · exact e
     · rw[if_pos e]at hr;exact hr
    rw[if_neg (by rw[hv0];simp)]at hr
    have HR2:Hid (rfault (names.take (k+1)) ((names.zip vs).drop (k+1))=0):=hr
    have hno:Maps.has D (.string names[k].data.toList)=false:=by rw[HP.out.hasB,hsn]
    have HP2:Hid (PM names (k+1) (D.put (.string names[k].data.toList) (.lit (.int .i64 k)))):=HP.out.step (hown.tidy key_law) hlt hsn
    have C1:=check_any names[k] wr hs
    have C2:=fun w' (hb':Below wr.heap.size wr w')=>vcheck_any vs[k] q' c' w' (hnl.up hb') h1 h2
    rw[eV_nil hn0]at C1
    rw[eV_nil hv0]at C2
    clear hr hn0 hsn hv0 HR HP hnl
    generalize names[k]=s at *
    generalize vs[k]=v at *
    have HOWN:Hid (wr.ownsMap Tryz.prog 9 (plainElem Tryz.prog 3) w.heap.size k D):=hown
    clear hown
    go_wp2_with fail
    refine C1.mono ?_
    rintro e w1 ⟨rfl,rfl⟩
    clear C1 nc
    go_wp2_with (at_lookup;(refine wpList_lookup_own_ok_int _ rfl _ _ 191 rfl 9 3 .i64 key_law Tryz.underlying191 Tryz.underlying3 (zero_int _) w.heap.size k D rfl HOWN.out _ _ rfl (keyOf_string_mk Tryz.underlying9 hs) ?_;intro cc hat hwc;rw[hno]))
    refine(C2 _ (Below.refl _ _)).mono ?_
    rintro e w2 ⟨rfl,hb2⟩
    have hb3:=hb.trans (hb2.mono hb.size)
    have HO2:Hid (w2.ownsMap Tryz.prog 9 (plainElem Tryz.prog 3) w.heap.size k D):=ownsMap_below HOWN.out hb2
    clear hat hwc HOWN C2 vc
    go_wp2_with (at_mapUpdate;refine wpList_mapUpdate_own _ rfl _ _ _ 191 rfl 9 3 key_law Tryz.underlying191 _ w.heap.size k D rfl HO2.out (by unfold maxLen;omega) _ _ _ rfl rfl (keyOf_string_mk Tryz.underlying9 hs) _ [] (plainElem_int Tryz.underlying3 (WalkArith.wf_i64 (by omega))) ?_;intro w3 hown3 hgrow)
    go_roundw
    case rel=>exact⟨k+1,_,by omega,by go_num,hown3,HP2,HR2,hb3.grown hgrow hb3.size (fun j hj=>by cases hj;exact Nat.le_refl _)⟩
    case measure=>simp[intOf];omega
  · have i1:¬(k:Int)<(names.length:Int):=by omega
    obtain rfl:k=names.length:=by omega
    have HOWN:Hid (wr.ownsMap Tryz.prog 9 (plainElem Tryz.prog 3) w.heap.size names.length D):=hown
    clear hown
    go_wp2
    go_ret2
    exact⟨⟨w.heap.size,D,rfl,HOWN.out,HP.out⟩,hb⟩
set_option maxRecDepth 100000 in
theorem placesOf_bad (names:List ByteArray)(vs:List (List Nd))(p q:Option Addr)(c d:Nat)(w:World)(hn:TL w p names)(hv:LL w q vs)(hl:names.length=vs.length)(hsz:∀t∈names,t.size≤maxLen)(hle:names.length≤1099511627776)(h:rfault [] (names.zip vs)≠0):
 Calls Tryz.prog 146 #[.slice p names.length c,.slice q vs.length d] w fun e w'=>e= .returned (.tuple #[.map none,eV (rfault [] (names.zip vs))])∧Below w.heap.size w w':=by
 have hmm:= @run_makeMap Tryz.prog
 have HL:Hid (names.length=vs.length):=hl
 have HSZ:Hid (∀t∈names,t.size≤maxLen):=hsz
 have HZ:Hid (rfault (names.take 0) ((names.zip vs).drop 0)=rfault [] (names.zip vs)):=rfl
 have HNZ:Hid (rfault [] (names.zip vs)≠0):=h
 generalize rfault [] (names.zip vs)=Z at *
 clear h hsz hl
 go_enter Tryz.func146,Tryz.ntmps146
 go_wp2
 go_loopw [16] (fun i wr=>∃(k:Nat) (D:DataW Unit),k≤names.length∧i= .int .i64 k∧wr.ownsMap Tryz.prog 9 (plainElem Tryz.prog 3) w.heap.size k D∧Hid (PM names k D)∧Hid (rfault (names.take k) ((names.zip vs).drop k)=Z)∧Below w.heap.size w wr) (fun i _=>names.length-(intOf i).toNat)
 case atStart=>exact⟨0,.map [],Nat.zero_le _,rfl,World.ownsMap_made _ _ _ _,PM.start _,HZ,(Below.refl _ _).alloc (Nat.le_refl _) _⟩
 case round=>
  obtain⟨k,D,hk,rfl,hown,HP,HR,hb⟩:=hrel
  by_cases hlt:k<names.length
  · have i1:(k:Int)<(names.length:Int):=by omega
    have hlt2:k<vs.length:=by rw[←HL.out];exact hlt
    have i2:(k:Int)<(vs.length:Int):=by omega
    obtain⟨nb,no,rfl,hnb,nc⟩:=(hn.up hb).at hlt
    obtain⟨vb,vo,q',c',rfl,hvb,vc,hnl,h1,h2⟩:=(hv.up hb).at hlt2
    have hs:names[k].size≤maxLen:=HSZ.out _ (List.getElem_mem _)
    have hr:=HR.out
    rw[rfault_at HL.out k hlt]at hr
    have C1:=check_any names[k] wr hs
    have HOWN:Hid (wr.ownsMap Tryz.prog 9 (plainElem Tryz.prog 3) w.heap.size k D):=hown
    clear HR
    by_cases hn0:nfault names[k].data.toList=0
    · rw[if_neg (by rw[hn0];simp)]at hr
      rw[eV_nil hn0]at C1
      cases hsn:seenB (names.take k) names[k]
      · rw[if_neg (by rw[hsn];simp)]at hr
        have hno:Maps.has D (.string names[k].data.toList)=false:=by rw[HP.out.hasB,hsn]
        have C2:=fun w' (hb':Below wr.heap.size wr w')=>vcheck_any vs[k] q' c' w' (hnl.up hb') h1 h2
        by_cases hv0:vfault vs[k]=0
        · rw[if_neg (by rw[hv0];simp)]at hr
          have HR2:Hid (rfault (names.take (k+1)) ((names.zip vs).drop (k+1))=Z):=hr
          have HP2:Hid (PM names (k+1) (D.put (.string names[k].data.toList) (.lit (.int .i64 k)))):=HP.out.step (hown.tidy key_law) hlt hsn
          rw[eV_nil hv0]at C2
          clear hr hn0 hsn hv0 HP hnl hown
          generalize names[k]=s at *
          generalize vs[k]=v at *
          go_wp2_with fail
          refine C1.mono ?_
          rintro e w1 ⟨rfl,rfl⟩
          clear C1 nc
          go_wp2_with (at_lookup;(refine wpList_lookup_own_ok_int _ rfl _ _ 191 rfl 9 3 .i64 key_law Tryz.underlying191 Tryz.underlying3 (zero_int _) w.heap.size k D rfl HOWN.out _ _ rfl (keyOf_string_mk Tryz.underlying9 hs) ?_;intro cc hat hwc;rw[hno]))
          refine(C2 _ (Below.refl _ _)).mono ?_
          rintro e w2 ⟨rfl,hb2⟩
          have hb3:=hb.trans (hb2.mono hb.size)
          have HO2:Hid (w2.ownsMap Tryz.prog 9 (plainElem Tryz.prog 3) w.heap.size k D):=ownsMap_below HOWN.out hb2
          clear hat hwc HOWN C2 vc
          go_wp2_with (at_mapUpdate;refine wpList_mapUpdate_own _ rfl _ _ _ 191 rfl 9 3 key_law Tryz.underlying191 _ w.heap.size k D rfl HO2.out (by unfold maxLen;omega) _ _ _ rfl rfl (keyOf_string_mk Tryz.underlying9 hs) _ [] (plainElem_int Tryz.underlying3 (WalkArith.wf_i64 (by omega))) ?_;intro w3 hown3 hgrow)
          go_roundw
          case rel=>exact⟨k+1,_,by omega,by go_num,hown3,HP2,HR2,hb3.grown hgrow hb3.size (fun j hj=>by cases hj;exact Nat.le_refl _)⟩
          case measure=>simp[intOf];omega
        · rw[if_pos hv0]at hr
          have HE:Hid (vfault vs[k]=Z):=hr
          have HEV:Hid (eV (vfault vs[k])= .iface 28 (.int .i64 (vfault vs[k]))):=eV_not hv0
          rw[eV_not hv0]at C2
          clear hr hn0 hsn hv0 HP hnl hown
          generalize names[k]=s at *
          generalize vs[k]=v at *
          generalize vfault v=z at *
          go_wp2_with fail
          refine C1.mono ?_
          rintro e w1 ⟨rfl,rfl⟩
          clear C1 nc
          go_wp2_with (at_lookup;(refine wpList_lookup_own_ok_int _ rfl _ _ 191 rfl 9 3 .i64 key_law Tryz.underlying191 Tryz.underlying3 (zero_int _) w.heap.size k D rfl HOWN.out _ _ rfl (keyOf_string_mk Tryz.underlying9 hs) ?_;intro cc hat hwc;rw[hno]))
          refine(C2 _ (Below.refl _ _)).mono ?_
          rintro e w2 ⟨rfl,hb2⟩
          have hb3:=hb.trans (hb2.mono hb.size)
          clear hat hwc HOWN C2 vc
          go_wp2
          go_ret2
          exact⟨by rw[←HE.out,HEV.out];rfl,hb3⟩
      · rw[if_pos hsn]at hr
        have HE:Hid (6=Z):=hr
        have hno:Maps.has D (.string names[k].data.toList)=true:=by rw[HP.out.hasB,hsn]
        clear hr hn0 hsn HP hnl hown
        generalize names[k]=s at *
        go_wp2_with fail
        refine C1.mono ?_
        rintro e w1 ⟨rfl,rfl⟩
        clear C1 nc
        go_wp2_with (at_lookup;(refine wpList_lookup_own_ok_int _ rfl _ _ 191 rfl 9 3 .i64 key_law Tryz.underlying191 Tryz.underlying3 (zero_int _) w.heap.size k D rfl HOWN.out _ _ rfl (keyOf_string_mk Tryz.underlying9 hs) ?_;intro cc hat hwc;rw[hno]))
        go_ret2
        exact⟨by rw[←HE.out];rfl,hb⟩
    · rw[if_pos hn0]at hr
      have HE:Hid (nfault names[k].data.toList=Z):=hr
      have HEV:Hid (eV (nfault names[k].data.toList)= .iface 28 (.int .i64 (nfault names[k].data.toList))):=eV_not hn0
      rw[eV_not hn0]at C1
      clear hr hn0 HP hnl hown HOWN
      generalize names[k]=s at *
      generalize nfault s.data.toList=z at *
      go_wp2_with fail
      refine C1.mono ?_
      rintro e w1 ⟨rfl,rfl⟩
      clear C1 nc
      go_wp2
      go_ret2
      exact⟨by rw[←HE.out,HEV.out];rfl,hb⟩
  · exfalso
    have:=HR.out
    rw[List.drop_of_length_le (by simp;omega)]at this
    exact HNZ.out this.symm
end Go.Proofs.YtnbkfggmpiccjaaGreatDoor
