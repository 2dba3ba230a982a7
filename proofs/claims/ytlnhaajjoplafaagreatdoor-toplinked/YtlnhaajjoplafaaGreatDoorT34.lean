import Derived.Test.YtlnhaajjoplafaaGreatDoorT18
import Derived.Test.YtlnhaajjoplafaaGreatDoorT22
import Derived.Laws.StructEq
import Derived.BigQuiet
import Derived.Deep.QuietTactic
set_option linter.unusedVariables false
set_option maxHeartbeats 12000000
namespace Go.Proofs.YtlnhaajjoplafaaGreatDoor
open Go.RowKit Go.Maps Go.WideMaps
set_option linter.unusedSimpArgs false
def IsAbove (es:List En)(u:Ui)(l:List Ui):Prop:=l.Pairwise (fun x y=>uC x y<0)∧∀x,x∈l↔Abv es u x
theorem IsAbove.one {es fs:List En}{u:Ui}{l m:List Ui}(h:IsAbove es u l)(k:IsAbove fs u m)(e:∀x,Abv es u x↔Abv fs u x):l=m:=
 asc_unique uC_is l m h.1 k.1 (fun x=>by rw[h.2,k.2,e])
def AboveTold (es:List En)(u:Ui)(e:Ending)(w':World):Prop:=
 (stf es=0∧∃q c l,e= .returned (.tuple #[.slice q l.length c,.nilIface])∧UL w' q l∧IsAbove es u l∧l.length≤c∧c≤maxLen)∨(stf es≠0∧e= .returned (.tuple #[.slice none 0 0,eV (stf es)]))
set_option maxRecDepth 100000 in
theorem entAbove_any (es:List En)(p:Option Addr)(c:Nat)(a:Ui)(w:World)(hl:EL w p es)(ha:UOk a):
 Calls Tryz.prog 133 #[.slice p es.length c,.agg #[.string a.t,.string a.i]] w fun e w'=>AboveTold es a e w'∧Below w.heap.size w w':=by
 have hbx:Below w.heap.size w (w.alloc (.cells #[.string a.t,.string a.i] 24)):=(Below.refl _ _).alloc (Nat.le_refl _) _
 have HL:Hid (EL _ p es):=hl.up hbx
 clear hl
 go_enter Tryz.func133,Tryz.ntmps133
 go_wp2_with fail
 refine(storeOf_any es p c _ HL.out).mono ?_
 rintro e w1 ⟨⟨h0,sb,rfl,hm⟩ | ⟨h0,rfl⟩,hb1⟩
 · have a0:w1.cell? ⟨w.heap.size,0,none⟩=some (.string a.t):=(hb1.cell (p:=⟨w.heap.size,0,none⟩) (by simp)).trans (by simp)
   have a1:w1.cell? ⟨w.heap.size,1,none⟩=some (.string a.i):=(hb1.cell (p:=⟨w.heap.size,1,none⟩) (by simp)).trans (by simp)
   have HG:Hid (Good es):=stf_zero h0
   have HF:Hid (Few es):=⟨HG.out.few,HG.out.uniq,fun e he=>(HG.out.ups e he).1⟩
   have HS0:Hid (stf es=0):=h0
   have HM:Hid (EMap _ w1 sb es):=hm
   have HB1:Hid (Below w.heap.size w w1):=hbx.trans (hb1.mono hbx.size)
   have HB0:Hid (Below _ _ w1):=hb1
   clear h0 hm hb1
   go_wp2_with fail
   refine(above_any es _ sb HF.out a _ ha HM.out HB0.out).mono ?_
   rintro e w2 ⟨fb,M,rfl,hset,hM,hb2,hM96⟩
   have HMM:Hid (∀_,_):=hM
   have HB2:Hid (Below w.heap.size w w2):=HB1.out.trans (hb2.mono HB1.out.size)
   clear hM hb2
   go_wp2_with fail
   refine(ukeys_any (some fb) _).mono ?_
   rintro e w3 ⟨rfl,rfl⟩
   have hbk:=(Below.refl w2.heap.size w2).alloc (Nat.le_refl _) (.cells #[.map (some fb)] 100)
   go_wp2_with fail
   refine(sortedU_any w2.heap.size fb M _ (by simp) (by simp) (hset.up hbk) (by omega)).mono ?_
   rintro e w4 ⟨q,c',l,rfl,hUL,hasc,hmem,hc1,hc2,hb4⟩
   have HUL:Hid (UL _ _ _):=hUL
   have HI:Hid (IsAbove es a l):=⟨hasc,fun x=>by rw[hmem,HMM.out]⟩
   have HB4:Hid (Below w.heap.size w w4):=HB2.out.trans ((hbk.trans (hb4.mono hbk.size)).mono HB2.out.size)
   clear hUL hasc hmem hb4 hset hbk
   go_wp2_with fail
   go_ret2
   exact⟨.inl ⟨HS0.out,q,c',l,rfl,HUL.out,HI.out,hc1,hc2⟩,HB4.out⟩
 · have HE:Hid (eV (stf es)= .iface 70 (.int .i64 (stf es))):=eV_not h0
   have HN:Hid (stf es≠0):=h0
   clear h0
   rw[HE.out]
   go_wp2_with fail
   go_ret2
   exact⟨.inr ⟨HN.out,by rw[HE.out];rfl⟩,hbx.trans (hb1.mono hbx.size)⟩
theorem above_ok (es:List En)(p:Option Addr)(c:Nat)(a:Ui)(w:World)(hl:EL w p es)(ha:UOk a)(h:stf es=0):
 Calls Tryz.prog 133 #[.slice p es.length c,.agg #[.string a.t,.string a.i]] w fun e w'=>∃q c' l,e= .returned (.tuple #[.slice q l.length c',.nilIface])∧UL w' q l∧IsAbove es a l∧l.length≤c'∧c'≤maxLen∧Below w.heap.size w w':=by
 refine(entAbove_any es p c a w hl ha).mono ?_
 rintro e w' ⟨⟨_,q,c',l,h1,h2,h3,h4,h5⟩ | ⟨h1,_⟩,hb⟩
 · exact⟨q,c',l,h1,h2,h3,h4,h5,hb⟩
 · exact absurd h h1
theorem above_err (es:List En)(p:Option Addr)(c:Nat)(a:Ui)(w:World)(hl:EL w p es)(ha:UOk a)(h:stf es≠0):
 Calls Tryz.prog 133 #[.slice p es.length c,.agg #[.string a.t,.string a.i]] w fun e w'=>e= .returned (.tuple #[.slice none 0 0,eV (stf es)])∧Below w.heap.size w w':=by
 refine(entAbove_any es p c a w hl ha).mono ?_
 rintro e w' ⟨⟨h1,_⟩ | ⟨_,rfl⟩,hb⟩
 · exact absurd h1 h
 · exact⟨rfl,hb⟩
end Go.Proofs.YtlnhaajjoplafaaGreatDoor
