import Derived.Test.YtjkepjbfgeldnaaGreatDoorB35
set_option linter.unusedVariables false
set_option maxHeartbeats 12000000
namespace Go.Proofs.YtjkepjbfgeldnaaGreatDoor
open Go.RowKit
set_option linter.unusedSimpArgs false
set_option maxRecDepth 100000
section
variable {R:Nat} {m m':List Tk} {b w:World}
theorem Rs.takeN (h:Rs R m b w){t:Tk}(e:m.tail=m')(et:fsT m=t):
 Calls Tryz.prog 34 #[.pointer (some ⟨R,0,none⟩)] w fun e w'=>e= .returned (.agg #[.int .i64 t.kind,.string t.s,.int .i64 t.at_])∧Rs R m' b w'∧Keep (fun x=>x=R) w w':=by
 subst e et
 refine h.take.mono ?_
 rintro e w' ⟨h1,h2⟩
 exact⟨h1,h.then h2,h2.2⟩
theorem Rs.passN (h:Rs R m b w)(s:ByteArray)(e:psT s m=m'):
 Calls Tryz.prog 35 #[.pointer (some ⟨R,0,none⟩),.string s] w fun e w'=>(∃d,e= .returned (.bool d))∧Rs R m' b w'∧Keep (fun x=>x=R) w w':=by
 subst e
 refine(h.passes s).mono ?_
 rintro e w' ⟨h1,h2⟩
 exact⟨⟨_,h1⟩,h.then h2,h2.2⟩
theorem Rs.scopeN (h:Rs R m b w){s:Sco}(e:scR m.tail=(s,m')):
 Calls Tryz.prog 36 #[.pointer (some ⟨R,0,none⟩)] w fun e w'=>e= .returned (.agg #[.int .i64 s.op,.string s.ty,.string s.u.t,.string s.u.i])∧Rs R m' b w'∧Keep (fun x=>x=R) w w':=by
 refine h.scope.mono ?_
 rintro e w' ⟨h1,h2⟩
 rw[‹scR m.tail=_›]at h1 h2
 exact⟨h1,h.then h2,h2.2⟩
theorem Rs.condN (h:Rs R m b w)(hE:EK R b)(hs:∀t∈m,t.s.size≤140737488351232){c:Cnd}(e:cdR m=(c,m')):
 Calls Tryz.prog 37 #[.pointer (some ⟨R,0,none⟩)] w fun e w'=>(∃q n,e= .returned (.agg #[.bool c.un,.slice q c.ex.length n])∧AK0 w' c.ex q n∧∀b o,q=some ⟨b,o,none⟩→Typed w' b 97)∧Rs R m' b w'∧Keep (fun x=>x=R) w w':=by
 refine(h.cond (hE.step h) hs).mono ?_
 rintro e w' ⟨h1,h2⟩
 rw[‹cdR m=_›]at h1 h2
 exact⟨h1,h.then h2,h2.2⟩
end
theorem cells15 {w:World}{T:Nat}{x0 x1 x2 x3 x4 x5 x6 x7 x8 x9 x10 x11 x12 x13 x14:Value}{ty:TypeId}(h:Blk w T #[x0,x1,x2,x3,x4,x5,x6,x7,x8,x9,x10,x11,x12,x13,x14] ty)(v0 v1 v2 v3 v4 v5 v6 v7 v8 v9 v10 v11 v12 v13 v14:Value):
 Blk ((((((((((((((((w).setCell ⟨T,0,none⟩ (v0)).setCell ⟨T,1,none⟩ (v1)).setCell ⟨T,2,none⟩ (v2)).setCell ⟨T,3,none⟩ (v3)).setCell ⟨T,4,none⟩ (v4)).setCell ⟨T,5,none⟩ (v5)).setCell ⟨T,6,none⟩ (v6)).setCell ⟨T,7,none⟩ (v7)).setCell ⟨T,8,none⟩ (v8)).setCell ⟨T,9,none⟩ (v9)).setCell ⟨T,10,none⟩ (v10)).setCell ⟨T,11,none⟩ (v11)).setCell ⟨T,12,none⟩ (v12)).setCell ⟨T,13,none⟩ (v13)).setCell ⟨T,14,none⟩ (v14)) T #[v0,v1,v2,v3,v4,v5,v6,v7,v8,v9,v10,v11,v12,v13,v14] ty:=by
 have h0:Blk ((w).setCell ⟨T,0,none⟩ (v0)) T #[v0,x1,x2,x3,x4,x5,x6,x7,x8,x9,x10,x11,x12,x13,x14] ty:=(h.set rfl).1
 have h1:Blk (((w).setCell ⟨T,0,none⟩ (v0)).setCell ⟨T,1,none⟩ (v1)) T #[v0,v1,x2,x3,x4,x5,x6,x7,x8,x9,x10,x11,x12,x13,x14] ty:=(h0.set rfl).1
 have h2:Blk ((((w).setCell ⟨T,0,none⟩ (v0)).setCell ⟨T,1,none⟩ (v1)).setCell ⟨T,2,none⟩ (v2)) T #[v0,v1,v2,x3,x4,x5,x6,x7,x8,x9,x10,x11,x12,x13,x14] ty:=(h1.set rfl).1
 have h3:Blk (((((w).setCell ⟨T,0,none⟩ (v0)).setCell ⟨T,1,none⟩ (v1)).setCell ⟨T,2,none⟩ (v2)).setCell ⟨T,3,none⟩ (v3)) T #[v0,v1,v2,v3,x4,x5,x6,x7,x8,x9,x10,x11,x12,x13,x14] ty:=(h2.set rfl).1
 have h4:Blk ((((((w).setCell ⟨T,0,none⟩ (v0)).setCell ⟨T,1,none⟩ (v1)).setCell ⟨T,2,none⟩ (v2)).setCell ⟨T,3,none⟩ (v3)).setCell ⟨T,4,none⟩ (v4)) T #[v0,v1,v2,v3,v4,x5,x6,x7,x8,x9,x10,x11,x12,x13,x14] ty:=(h3.set rfl).1
 have h5:Blk (((((((w).setCell ⟨T,0,none⟩ (v0)).setCell ⟨T,1,none⟩ (v1)).setCell ⟨T,2,none⟩ (v2)).setCell ⟨T,3,none⟩ (v3)).setCell ⟨T,4,none⟩ (v4)).setCell ⟨T,5,none⟩ (v5)) T #[v0,v1,v2,v3,v4,v5,x6,x7,x8,x9,x10,x11,x12,x13,x14] ty:=(h4.set rfl).1
 have h6:Blk ((((((((w).setCell ⟨T,0,none⟩ (v0)).setCell ⟨T,1,none⟩ (v1)).setCell ⟨T,2,none⟩ (v2)).setCell ⟨T,3,none⟩ (v3)).setCell ⟨T,4,none⟩ (v4)).setCell ⟨T,5,none⟩ (v5)).setCell ⟨T,6,none⟩ (v6)) T #[v0,v1,v2,v3,v4,v5,v6,x7,x8,x9,x10,x11,x12,x13,x14] ty:=(h5.set rfl).1
 have h7:Blk (((((((((w).setCell ⟨T,0,none⟩ (v0)).setCell ⟨T,1,none⟩ (v1)).setCell ⟨T,2,none⟩ (v2)).setCell ⟨T,3,none⟩ (v3)).setCell ⟨T,4,none⟩ (v4)).setCell ⟨T,5,none⟩ (v5)).setCell ⟨T,6,none⟩ (v6)).setCell ⟨T,7,none⟩ (v7)) T #[v0,v1,v2,v3,v4,v5,v6,v7,x8,x9,x10,x11,x12,x13,x14] ty:=(h6.set rfl).1
 have h8:Blk ((((((((((w).setCell ⟨T,0,none⟩ (v0)).setCell ⟨T,1,none⟩ (v1)).setCell ⟨T,2,none⟩ (v2)).setCell ⟨T,3,none⟩ (v3)).setCell ⟨T,4,none⟩ (v4)).setCell ⟨T,5,none⟩ (v5)).setCell ⟨T,6,none⟩ (v6)).setCell ⟨T,7,none⟩ (v7)).setCell ⟨T,8,none⟩ (v8)) T #[v0,v1,v2,v3,v4,v5,v6,v7,v8,x9,x10,x11,x12,x13,x14] ty:=(h7.set rfl).1
 have h9:Blk (((((((((((w).setCell ⟨T,0,none⟩ (v0)).setCell ⟨T,1,none⟩ (v1)).setCell ⟨T,2,none⟩ (v2)).setCell ⟨T,3,none⟩ (v3)).setCell ⟨T,4,none⟩ (v4)).setCell ⟨T,5,none⟩ (v5)).setCell ⟨T,6,none⟩ (v6)).setCell ⟨T,7,none⟩ (v7)).setCell ⟨T,8,none⟩ (v8)).setCell ⟨T,9,none⟩ (v9)) T #[v0,v1,v2,v3,v4,v5,v6,v7,v8,v9,x10,x11,x12,x13,x14] ty:=(h8.set rfl).1
 have h10:Blk ((((((((((((w).setCell ⟨T,0,none⟩ (v0)).setCell ⟨T,1,none⟩ (v1)).setCell ⟨T,2,none⟩ (v2)).setCell ⟨T,3,none⟩ (v3)).setCell ⟨T,4,none⟩ (v4)).setCell ⟨T,5,none⟩ (v5)).setCell ⟨T,6,none⟩ (v6)).setCell ⟨T,7,none⟩ (v7)).setCell ⟨T,8,none⟩ (v8)).setCell ⟨T,9,none⟩ (v9)).setCell ⟨T,10,none⟩ (v10)) T #[v0,v1,v2,v3,v4,v5,v6,v7,v8,v9,v10,x11,x12,x13,x14] ty:=(h9.set rfl).1
 have h11:Blk (((((((((((((w).setCell ⟨T,0,none⟩ (v0)).setCell ⟨T,1,none⟩ (v1)).setCell ⟨T,2,none⟩ (v2)).setCell ⟨T,3,none⟩ (v3)).setCell ⟨T,4,none⟩ (v4)).setCell ⟨T,5,none⟩ (v5)).setCell ⟨T,6,none⟩ (v6)).setCell ⟨T,7,none⟩ (v7)).setCell ⟨T,8,none⟩ (v8)).setCell ⟨T,9,none⟩ (v9)).setCell ⟨T,10,none⟩ (v10)).setCell ⟨T,11,none⟩ (v11)) T #[v0,v1,v2,v3,v4,v5,v6,v7,v8,v9,v10,v11,x12,x13,x14] ty:=(h10.set rfl).1
 have h12:Blk ((((((((((((((w).setCell ⟨T,0,none⟩ (v0)).setCell ⟨T,1,none⟩ (v1)).setCell ⟨T,2,none⟩ (v2)).setCell ⟨T,3,none⟩ (v3)).setCell ⟨T,4,none⟩ (v4)).setCell ⟨T,5,none⟩ (v5)).setCell ⟨T,6,none⟩ (v6)).setCell ⟨T,7,none⟩ (v7)).setCell ⟨T,8,none⟩ (v8)).setCell ⟨T,9,none⟩ (v9)).setCell ⟨T,10,none⟩ (v10)).setCell ⟨T,11,none⟩ (v11)).setCell ⟨T,12,none⟩ (v12)) T #[v0,v1,v2,v3,v4,v5,v6,v7,v8,v9,v10,v11,v12,x13,x14] ty:=(h11.set rfl).1
 have h13:Blk (((((((((((((((w).setCell ⟨T,0,none⟩ (v0)).setCell ⟨T,1,none⟩ (v1)).setCell ⟨T,2,none⟩ (v2)).setCell ⟨T,3,none⟩ (v3)).setCell ⟨T,4,none⟩ (v4)).setCell ⟨T,5,none⟩ (v5)).setCell ⟨T,6,none⟩ (v6)).setCell ⟨T,7,none⟩ (v7)).setCell ⟨T,8,none⟩ (v8)).setCell ⟨T,9,none⟩ (v9)).setCell ⟨T,10,none⟩ (v10)).setCell ⟨T,11,none⟩ (v11)).setCell ⟨T,12,none⟩ (v12)).setCell ⟨T,13,none⟩ (v13)) T #[v0,v1,v2,v3,v4,v5,v6,v7,v8,v9,v10,v11,v12,v13,x14] ty:=(h12.set rfl).1
 have h14:Blk ((((((((((((((((w).setCell ⟨T,0,none⟩ (v0)).setCell ⟨T,1,none⟩ (v1)).setCell ⟨T,2,none⟩ (v2)).setCell ⟨T,3,none⟩ (v3)).setCell ⟨T,4,none⟩ (v4)).setCell ⟨T,5,none⟩ (v5)).setCell ⟨T,6,none⟩ (v6)).setCell ⟨T,7,none⟩ (v7)).setCell ⟨T,8,none⟩ (v8)).setCell ⟨T,9,none⟩ (v9)).setCell ⟨T,10,none⟩ (v10)).setCell ⟨T,11,none⟩ (v11)).setCell ⟨T,12,none⟩ (v12)).setCell ⟨T,13,none⟩ (v13)).setCell ⟨T,14,none⟩ (v14)) T #[v0,v1,v2,v3,v4,v5,v6,v7,v8,v9,v10,v11,v12,v13,v14] ty:=(h13.set rfl).1
 exact h14
theorem Rs.set15 {R T:Nat}{l:List Tk}{a b:World}(h:Rs R l a b)(hR:R<a.heap.size)(hT:a.heap.size≤T)(v0 v1 v2 v3 v4 v5 v6 v7 v8 v9 v10 v11 v12 v13 v14:Value):Rs R l a ((((((((((((((((b).setCell ⟨T,0,none⟩ (v0)).setCell ⟨T,1,none⟩ (v1)).setCell ⟨T,2,none⟩ (v2)).setCell ⟨T,3,none⟩ (v3)).setCell ⟨T,4,none⟩ (v4)).setCell ⟨T,5,none⟩ (v5)).setCell ⟨T,6,none⟩ (v6)).setCell ⟨T,7,none⟩ (v7)).setCell ⟨T,8,none⟩ (v8)).setCell ⟨T,9,none⟩ (v9)).setCell ⟨T,10,none⟩ (v10)).setCell ⟨T,11,none⟩ (v11)).setCell ⟨T,12,none⟩ (v12)).setCell ⟨T,13,none⟩ (v13)).setCell ⟨T,14,none⟩ (v14)):=
 (((((((((((((((h.set hR hT 0 v0).set hR hT 1 v1).set hR hT 2 v2).set hR hT 3 v3).set hR hT 4 v4).set hR hT 5 v5).set hR hT 6 v6).set hR hT 7 v7).set hR hT 8 v8).set hR hT 9 v9).set hR hT 10 v10).set hR hT 11 v11).set hR hT 12 v12).set hR hT 13 v13).set hR hT 14 v14)
theorem keep15 (w:World)(T:Nat)(v0 v1 v2 v3 v4 v5 v6 v7 v8 v9 v10 v11 v12 v13 v14:Value):Keep (fun x=>x=T) w ((((((((((((((((w).setCell ⟨T,0,none⟩ (v0)).setCell ⟨T,1,none⟩ (v1)).setCell ⟨T,2,none⟩ (v2)).setCell ⟨T,3,none⟩ (v3)).setCell ⟨T,4,none⟩ (v4)).setCell ⟨T,5,none⟩ (v5)).setCell ⟨T,6,none⟩ (v6)).setCell ⟨T,7,none⟩ (v7)).setCell ⟨T,8,none⟩ (v8)).setCell ⟨T,9,none⟩ (v9)).setCell ⟨T,10,none⟩ (v10)).setCell ⟨T,11,none⟩ (v11)).setCell ⟨T,12,none⟩ (v12)).setCell ⟨T,13,none⟩ (v13)).setCell ⟨T,14,none⟩ (v14)):=by
 have s:∀a,(fun x=>x=T) a→(fun x=>x=T) a∨w.heap.size≤a:=fun _ e=>.inl e
 exact(Keep.trans (Keep.trans (Keep.trans (Keep.trans (Keep.trans (Keep.trans (Keep.trans (Keep.trans (Keep.trans (Keep.trans (Keep.trans (Keep.trans (Keep.trans (Keep.trans (keepSet w T 0 v0) (keepSet _ T 1 v1) (fun _ e=>.inl e)) (keepSet _ T 2 v2) (fun _ e=>.inl e)) (keepSet _ T 3 v3) (fun _ e=>.inl e)) (keepSet _ T 4 v4) (fun _ e=>.inl e)) (keepSet _ T 5 v5) (fun _ e=>.inl e)) (keepSet _ T 6 v6) (fun _ e=>.inl e)) (keepSet _ T 7 v7) (fun _ e=>.inl e)) (keepSet _ T 8 v8) (fun _ e=>.inl e)) (keepSet _ T 9 v9) (fun _ e=>.inl e)) (keepSet _ T 10 v10) (fun _ e=>.inl e)) (keepSet _ T 11 v11) (fun _ e=>.inl e)) (keepSet _ T 12 v12) (fun _ e=>.inl e)) (keepSet _ T 13 v13) (fun _ e=>.inl e)) (keepSet _ T 14 v14) (fun _ e=>.inl e))
theorem cdsR_step {m:List Tk}{c:Cnd}{m':List Tk}(hm:m≠[])(e:cdR m=(c,m')):cdsR m.length m=c::cdsR m'.length m'∧m'.length<m.length:=by
 have h1:=cdR_le hm
 rw[e]at h1
 cases m with
 | nil=>exact absurd rfl hm
 | cons t r=>
   refine⟨?_,h1⟩
   simp only[List.length_cons]at h1 ⊢
   rw[cdsR,if_neg (by simp),e]
   simp only
   rw[cdsR_more r.length m'.length m' (by omega) (Nat.le_refl _)]
theorem uid_less (l:List Tk):(uidR l).2.length≤l.length∧∀t∈(uidR l).2,t∈l:=by
 unfold uidR
 have h1:=psT_le kCC l.tail
 refine⟨by simp only[List.length_tail]at h1 ⊢; omega,fun t ht=>?_⟩
 have h2:=List.mem_of_mem_tail ht
 unfold psT at h2
 split at h2
 · exact List.mem_of_mem_tail (List.mem_of_mem_tail h2)
 · exact List.mem_of_mem_tail h2
theorem sc_less (l:List Tk):(scR l).2.length≤l.length∧∀t∈(scR l).2,t∈l:=by
 have hu:∀a b l,(usR a b l).2.length≤l.length∧∀t∈(usR a b l).2,t∈l:=fun a b l=>by
  unfold usR
  split
  · exact⟨by simp,fun t ht=>List.mem_of_mem_tail ht⟩
  · exact uid_less l
 have ht:∀l:List Tk,l.tail.length≤l.length∧∀t∈l.tail,t∈l:=fun l=>⟨by simp,fun t ht=>List.mem_of_mem_tail ht⟩
 have hc:∀ {a b c:List Tk},(a.length≤b.length∧∀t∈a,t∈b)→(b.length≤c.length∧∀t∈b,t∈c)→a.length≤c.length∧∀t∈a,t∈c:=fun h k=>⟨Nat.le_trans h.1 k.1,fun t m=>k.2 t (h.2 t m)⟩
 unfold scR
 split
 · exact hc (hu _ _ _) (ht l)
 · split
   · exact hc (hu _ _ _) (ht l)
   · split
     · unfold isR
       split
       · exact hc (uid_less _) (hc (ht _) (hc (ht _) (ht l)))
       · exact hc (ht _) (ht l)
     · exact⟨Nat.le_refl _,fun _ m=>m⟩
theorem cdR_mem {m:List Tk}:∀t∈(cdR m).2,t∈m:=by
 intro t ht
 unfold cdR at ht
 have h1:∀(k:Int) (l:List Tk),∀t∈(insF k l).2,t∈l:=by
  intro k l
  induction l generalizing k with
  | nil=>intro t h;simp[insF]at h
  | cons x r ih=>
    intro t h
    rw[insF_cons]at h
    split at h
    · exact List.mem_cons_of_mem _ h
    · exact List.mem_cons_of_mem _ (ih _ t h)
 have h2:=h1 1 _ t ht
 unfold psT at h2
 split at h2
 · exact List.mem_of_mem_tail (List.mem_of_mem_tail h2)
 · exact List.mem_of_mem_tail h2
def PoRet (w':World)(p:Po)(e:Ending):Prop:=∃q c,e= .returned (poV p q c)∧CdLT w' q p.cs∧p.cs.length≤c∧c≤maxLen
section
variable {R:Nat} {l:List Tk} {a b:World}
theorem Rs.policy (h:Rs R l a b)(hE:EK R b)(hs:∀t∈l,t.s.size≤140737488351232):
 Calls Tryz.prog 16 #[.pointer (some ⟨R,0,none⟩)] b fun e w'=>PoRet w' (poR l) e∧Rs R [] b w':=by
 obtain⟨V,hV⟩:∃V,V=b.alloc (.cells #[.string ⟨#[]⟩,.bool false,.int .i64 0,.string ⟨#[]⟩,.string ⟨#[]⟩,.string ⟨#[]⟩,.int .i64 0,.string ⟨#[]⟩,.string ⟨#[]⟩,.string ⟨#[]⟩,.int .i64 0,.string ⟨#[]⟩,.string ⟨#[]⟩,.string ⟨#[]⟩,.slice none 0 0] 28):=⟨_,rfl⟩
 have hbV:Below b.heap.size b V:=by rw[hV];exact kqx
 have hR:=h.lt
 have H0:Hid (Rs R l b V):=h.refl.up hbV
 have HK0:Hid (Blk V b.heap.size #[.string ⟨#[]⟩,.bool false,.int .i64 0,.string ⟨#[]⟩,.string ⟨#[]⟩,.string ⟨#[]⟩,.int .i64 0,.string ⟨#[]⟩,.string ⟨#[]⟩,.string ⟨#[]⟩,.int .i64 0,.string ⟨#[]⟩,.string ⟨#[]⟩,.string ⟨#[]⟩,.slice none 0 0] 28):=by rw[hV];exact Blk.new b _ _ rfl
 have hlm:=h.small
 have HE:Hid (EK R b):=hE
 obtain⟨t0,ht0⟩:∃t,t=fsT l:=⟨_,rfl⟩
 obtain⟨m1,hm1⟩:∃m,m=l.tail:=⟨_,rfl⟩
 obtain⟨m2,hm2⟩:∃m,m=psT kCol m1:=⟨_,rfl⟩
 obtain⟨t2,ht2⟩:∃t,t=fsT m2:=⟨_,rfl⟩
 obtain⟨m3,hm3⟩:∃m,m=m2.tail:=⟨_,rfl⟩
 obtain⟨m4,hm4⟩:∃m,m=psT kOp m3:=⟨_,rfl⟩
 obtain⟨s1,hs1⟩:∃m,m=(scR m4.tail).1:=⟨_,rfl⟩
 obtain⟨m5,hm5⟩:∃m,m=(scR m4.tail).2:=⟨_,rfl⟩
 obtain⟨m6,hm6⟩:∃m,m=psT kCom m5:=⟨_,rfl⟩
 obtain⟨s2,hs2⟩:∃m,m=(scR m6.tail).1:=⟨_,rfl⟩
 obtain⟨m7,hm7⟩:∃m,m=(scR m6.tail).2:=⟨_,rfl⟩
 obtain⟨m8,hm8⟩:∃m,m=psT kCom m7:=⟨_,rfl⟩
 obtain⟨s3,hs3⟩:∃m,m=(scR m8.tail).1:=⟨_,rfl⟩
 obtain⟨m9,hm9⟩:∃m,m=(scR m8.tail).2:=⟨_,rfl⟩
 obtain⟨mA,hmA⟩:∃m,m=psT kCl m9:=⟨_,rfl⟩
 have HPO:Hid (poR l=⟨t0.s,decide (t2.s=kForbid),s1,s2,s3,cdsR mA.length mA⟩):=by
  show _=_
  have e1:r1 l=m4.tail:=by rw[hm4,hm3,hm2,hm1];rfl
  have e2:r2 l=m6.tail:=by rw[hm6,hm5,←e1];rfl
  have e3:r3 l=m8.tail:=by rw[hm8,hm7,←e2];rfl
  have e4:r4 l=mA:=by rw[hmA,hm9,←e3];rfl
  unfold poR
  rw[e1,e2,e3,e4,hs1,hs2,hs3,ht0,ht2,hm2,hm1]
 have HSZ:Hid (mA.length≤l.length∧∀t∈mA,t.s.size≤140737488351232):=by
  have p1:∀s l,(psT s l).length≤l.length∧∀t∈psT s l,t∈l:=fun s l=>by
   refine⟨psT_le s l,fun t ht=>?_⟩
   unfold psT at ht
   split at ht
   · exact List.mem_of_mem_tail ht
   · exact ht
  have p2:∀l:List Tk,l.tail.length≤l.length∧∀t∈l.tail,t∈l:=fun l=>⟨by simp,fun t ht=>List.mem_of_mem_tail ht⟩
  have p3:∀l,(scR l).2.length≤l.length∧∀t∈(scR l).2,t∈l:=sc_less
  have q1:=p2 l;rw[←hm1]at q1
  have q2:=p1 kCol m1;rw[←hm2]at q2
  have q3:=p2 m2;rw[←hm3]at q3
  have q4:=p1 kOp m3;rw[←hm4]at q4
  have q5:=p2 m4
  have q6:=p3 m4.tail;rw[←hm5]at q6
  have q7:=p1 kCom m5;rw[←hm6]at q7
  have q8:=p2 m6
  have q9:=p3 m6.tail;rw[←hm7]at q9
  have qa:=p1 kCom m7;rw[←hm8]at qa
  have qb:=p2 m8
  have qc:=p3 m8.tail;rw[←hm9]at qc
  have qd:=p1 kCl m9;rw[←hmA]at qd
  exact⟨by omega,fun t ht=>hs t (q1.2 t (q2.2 t (q3.2 t (q4.2 t (q5.2 t (q6.2 t (q7.2 t (q8.2 t (q9.2 t (qa.2 t (qb.2 t (qc.2 t (qd.2 t ht)))))))))))))⟩
 have C1:=fun w' (k:Rs R l b w')=>k.takeN hm1.symm ht0.symm
 have C2:=fun w' (k:Rs R m1 b w')=>k.passN ⟨#[58]⟩ hm2.symm
 have C3:=fun w' (k:Rs R m2 b w')=>k.takeN hm3.symm ht2.symm
 have C4:=fun w' (k:Rs R m3 b w')=>k.passN ⟨#[40]⟩ hm4.symm
 have C5:=fun w' (k:Rs R m4 b w')=>k.scopeN (s:=s1) (m':=m5) (by rw[hs1,hm5])
 have C6:=fun w' (k:Rs R m5 b w')=>k.passN ⟨#[44]⟩ hm6.symm
 have C7:=fun w' (k:Rs R m6 b w')=>k.scopeN (s:=s2) (m':=m7) (by rw[hs2,hm7])
 have C8:=fun w' (k:Rs R m7 b w')=>k.passN ⟨#[44]⟩ hm8.symm
 have C9:=fun w' (k:Rs R m8 b w')=>k.scopeN (s:=s3) (m':=m9) (by rw[hs3,hm9])
 have CA:=fun w' (k:Rs R m9 b w')=>k.passN ⟨#[41]⟩ hmA.symm
 have hfd:=fun a b d w=>ptok_text a b d w
 have hfo:(t2.s.toList == [102,111,114,98,105,100])=decide (t2.s=kForbid):=by
  by_cases e:t2.s=kForbid
  · rw[decide_eq_true e,e,ByteArray.toList_eq];rfl
  · rw[decide_eq_false e];exact txt_neL e
 obtain⟨fo,hfo2⟩:∃fo,fo=decide (t2.s=kForbid):=⟨_,rfl⟩
 rw[←hfo2]at hfo HPO
 clear h hE hs hbV ht0 hm1 hm2 ht2 hm3 hm4 hs1 hm5 hm6 hs2 hm7 hm8 hs3 hm9 hmA hfo2
 go_enter Tryz.func16,Tryz.ntmps16
 go_wp2_with fail
 rw[←hV]
 clear hV
 refine(C1 _ H0.out).mono ?_
 rintro _ w1 ⟨rfl,h1,k1⟩
 have hlt:b.heap.size<w1.heap.size:=Nat.lt_of_lt_of_le HK0.out.lt k1.size
 obtain⟨T,hT⟩:∃T,T=w1.heap.size:=⟨_,rfl⟩
 obtain⟨V1,hV1⟩:∃V1,V1=w1.alloc (.cells #[.string t0.s,.bool false,.int .i64 0,.string ⟨#[]⟩,.string ⟨#[]⟩,.string ⟨#[]⟩,.int .i64 0,.string ⟨#[]⟩,.string ⟨#[]⟩,.string ⟨#[]⟩,.int .i64 0,.string ⟨#[]⟩,.string ⟨#[]⟩,.string ⟨#[]⟩,.slice none 0 0] 28):=⟨_,rfl⟩
 have H1:Hid (Rs R m1 b V1):=by rw[hV1];exact h1.up kqx
 have HK1:Hid (Blk V1 b.heap.size #[.string ⟨#[]⟩,.bool false,.int .i64 0,.string ⟨#[]⟩,.string ⟨#[]⟩,.string ⟨#[]⟩,.int .i64 0,.string ⟨#[]⟩,.string ⟨#[]⟩,.string ⟨#[]⟩,.int .i64 0,.string ⟨#[]⟩,.string ⟨#[]⟩,.string ⟨#[]⟩,.slice none 0 0] 28):=by rw[hV1];exact(HK0.out.keep k1 (by omega)).up kqx
 have HT1:Hid (Blk V1 T #[.string t0.s,.bool false,.int .i64 0,.string ⟨#[]⟩,.string ⟨#[]⟩,.string ⟨#[]⟩,.int .i64 0,.string ⟨#[]⟩,.string ⟨#[]⟩,.string ⟨#[]⟩,.int .i64 0,.string ⟨#[]⟩,.string ⟨#[]⟩,.string ⟨#[]⟩,.slice none 0 0] 28):=by rw[hV1];exact Blk.new w1 _ _ hT
 have hRT:¬T=R:=by omega
 have hTb:b.heap.size<T:=by omega
 have hTb':¬T=b.heap.size:=by omega
 have hbT':¬b.heap.size=T:=by omega
 have hRb:¬b.heap.size=R:=by omega
 clear C1 H0 HK0 h1 k1 hlt
 go_wp2_with fail
 rw[←hV1,←hT]
 refine(C2 _ H1.out).mono ?_
 rintro _ w2 ⟨⟨_,rfl⟩,h2',k2⟩
 have H2:Hid (Rs R _ b w2):=h2'
 have HK2:Hid (Blk w2 b.heap.size #[.string ⟨#[]⟩,.bool false,.int .i64 0,.string ⟨#[]⟩,.string ⟨#[]⟩,.string ⟨#[]⟩,.int .i64 0,.string ⟨#[]⟩,.string ⟨#[]⟩,.string ⟨#[]⟩,.int .i64 0,.string ⟨#[]⟩,.string ⟨#[]⟩,.string ⟨#[]⟩,.slice none 0 0] 28):=HK1.out.keep k2 hRb
 have HT2:Hid (Blk w2 T #[.string t0.s,.bool false,.int .i64 0,.string ⟨#[]⟩,.string ⟨#[]⟩,.string ⟨#[]⟩,.int .i64 0,.string ⟨#[]⟩,.string ⟨#[]⟩,.string ⟨#[]⟩,.int .i64 0,.string ⟨#[]⟩,.string ⟨#[]⟩,.string ⟨#[]⟩,.slice none 0 0] 28):=HT1.out.keep k2 hRT
 clear C2 HK1 HT1 H1 h2' k2 hV1 hT
 go_wp2_with fail
 refine(C3 _ H2.out).mono ?_
 rintro _ w3 ⟨rfl,h3',k3⟩
 have H3:Hid (Rs R _ b w3):=h3'
 have HK3:Hid (Blk w3 b.heap.size #[.string ⟨#[]⟩,.bool false,.int .i64 0,.string ⟨#[]⟩,.string ⟨#[]⟩,.string ⟨#[]⟩,.int .i64 0,.string ⟨#[]⟩,.string ⟨#[]⟩,.string ⟨#[]⟩,.int .i64 0,.string ⟨#[]⟩,.string ⟨#[]⟩,.string ⟨#[]⟩,.slice none 0 0] 28):=HK2.out.keep k3 hRb
 have HT3:Hid (Blk w3 T #[.string t0.s,.bool false,.int .i64 0,.string ⟨#[]⟩,.string ⟨#[]⟩,.string ⟨#[]⟩,.int .i64 0,.string ⟨#[]⟩,.string ⟨#[]⟩,.string ⟨#[]⟩,.int .i64 0,.string ⟨#[]⟩,.string ⟨#[]⟩,.string ⟨#[]⟩,.slice none 0 0] 28):=HT2.out.keep k3 hRT
 clear C3 HK2 HT2 H2 h3' k3
 have y1:w3.cell? ⟨T,1,none⟩=some (.bool false):=HT3.out.cell 1
 have f1:=HT3.out.free 1
 obtain⟨Vc,hVc⟩:∃V,V=(w3).setCell ⟨T,1,none⟩ (.bool fo):=⟨_,rfl⟩
 have Hc:Hid (Rs R m3 b Vc):=by rw[hVc];exact(H3.out.set hR (Nat.le_of_lt hTb) 1 _)
 have HKc:Hid (Blk Vc b.heap.size #[.string ⟨#[]⟩,.bool false,.int .i64 0,.string ⟨#[]⟩,.string ⟨#[]⟩,.string ⟨#[]⟩,.int .i64 0,.string ⟨#[]⟩,.string ⟨#[]⟩,.string ⟨#[]⟩,.int .i64 0,.string ⟨#[]⟩,.string ⟨#[]⟩,.string ⟨#[]⟩,.slice none 0 0] 28):=by rw[hVc];exact HK3.out.keep (keepSet w3 T 1 _) hbT'
 have HTc:Hid (Blk Vc T #[.string t0.s,.bool fo,.int .i64 0,.string ⟨#[]⟩,.string ⟨#[]⟩,.string ⟨#[]⟩,.int .i64 0,.string ⟨#[]⟩,.string ⟨#[]⟩,.string ⟨#[]⟩,.int .i64 0,.string ⟨#[]⟩,.string ⟨#[]⟩,.string ⟨#[]⟩,.slice none 0 0] 28):=by rw[hVc];exact(HT3.out.set rfl).1
 clear H3 HK3 HT3
 go_wp2_with fail
 rw[←hVc]
 refine(C4 _ Hc.out).mono ?_
 rintro _ w4 ⟨⟨_,rfl⟩,h4',k4⟩
 have H4:Hid (Rs R _ b w4):=h4'
 have HK4:Hid (Blk w4 b.heap.size #[.string ⟨#[]⟩,.bool false,.int .i64 0,.string ⟨#[]⟩,.string ⟨#[]⟩,.string ⟨#[]⟩,.int .i64 0,.string ⟨#[]⟩,.string ⟨#[]⟩,.string ⟨#[]⟩,.int .i64 0,.string ⟨#[]⟩,.string ⟨#[]⟩,.string ⟨#[]⟩,.slice none 0 0] 28):=HKc.out.keep k4 hRb
 have HT4:Hid (Blk w4 T #[.string t0.s,.bool fo,.int .i64 0,.string ⟨#[]⟩,.string ⟨#[]⟩,.string ⟨#[]⟩,.int .i64 0,.string ⟨#[]⟩,.string ⟨#[]⟩,.string ⟨#[]⟩,.int .i64 0,.string ⟨#[]⟩,.string ⟨#[]⟩,.string ⟨#[]⟩,.slice none 0 0] 28):=HTc.out.keep k4 hRT
 clear C4 HKc HTc Hc h4' k4 hVc
 clear y1 f1
 clear hfo
 go_wp2_with fail
 refine(C5 _ H4.out).mono ?_
 rintro _ w5 ⟨rfl,h5',k5⟩
 have H5:Hid (Rs R _ b w5):=h5'
 have HK5:Hid (Blk w5 b.heap.size #[.string ⟨#[]⟩,.bool false,.int .i64 0,.string ⟨#[]⟩,.string ⟨#[]⟩,.string ⟨#[]⟩,.int .i64 0,.string ⟨#[]⟩,.string ⟨#[]⟩,.string ⟨#[]⟩,.int .i64 0,.string ⟨#[]⟩,.string ⟨#[]⟩,.string ⟨#[]⟩,.slice none 0 0] 28):=HK4.out.keep k5 hRb
 have HT5:Hid (Blk w5 T #[.string t0.s,.bool fo,.int .i64 0,.string ⟨#[]⟩,.string ⟨#[]⟩,.string ⟨#[]⟩,.int .i64 0,.string ⟨#[]⟩,.string ⟨#[]⟩,.string ⟨#[]⟩,.int .i64 0,.string ⟨#[]⟩,.string ⟨#[]⟩,.string ⟨#[]⟩,.slice none 0 0] 28):=HT4.out.keep k5 hRT
 clear C5 HK4 HT4 H4 h5' k5
 have y2:w5.cell? ⟨T,2,none⟩=some (.int .i64 0):=HT5.out.cell 2
 have f2:=HT5.out.free 2
 have y3:w5.cell? ⟨T,3,none⟩=some (.string ⟨#[]⟩):=HT5.out.cell 3
 have f3:=HT5.out.free 3
 have y4:w5.cell? ⟨T,4,none⟩=some (.string ⟨#[]⟩):=HT5.out.cell 4
 have f4:=HT5.out.free 4
 have y5:w5.cell? ⟨T,5,none⟩=some (.string ⟨#[]⟩):=HT5.out.cell 5
 have f5:=HT5.out.free 5
 obtain⟨Vd,hVd⟩:∃V,V=((((w5).setCell ⟨T,2,none⟩ (.int .i64 s1.op)).setCell ⟨T,3,none⟩ (.string s1.ty)).setCell ⟨T,4,none⟩ (.string s1.u.t)).setCell ⟨T,5,none⟩ (.string s1.u.i):=⟨_,rfl⟩
 have Hd:Hid (Rs R m5 b Vd):=by rw[hVd];exact((((H5.out.set hR (Nat.le_of_lt hTb) 2 _).set hR (Nat.le_of_lt hTb) 3 _).set hR (Nat.le_of_lt hTb) 4 _).set hR (Nat.le_of_lt hTb) 5 _)
 have HKd:Hid (Blk Vd b.heap.size #[.string ⟨#[]⟩,.bool false,.int .i64 0,.string ⟨#[]⟩,.string ⟨#[]⟩,.string ⟨#[]⟩,.int .i64 0,.string ⟨#[]⟩,.string ⟨#[]⟩,.string ⟨#[]⟩,.int .i64 0,.string ⟨#[]⟩,.string ⟨#[]⟩,.string ⟨#[]⟩,.slice none 0 0] 28):=by rw[hVd];exact HK5.out.keep (Keep.trans (Keep.trans (Keep.trans (keepSet w5 T 2 _) (keepSet _ T 3 _) (fun _ e=>.inl e)) (keepSet _ T 4 _) (fun _ e=>.inl e)) (keepSet _ T 5 _) (fun _ e=>.inl e)) hbT'
 have HTd:Hid (Blk Vd T #[.string t0.s,.bool fo,.int .i64 s1.op,.string s1.ty,.string s1.u.t,.string s1.u.i,.int .i64 0,.string ⟨#[]⟩,.string ⟨#[]⟩,.string ⟨#[]⟩,.int .i64 0,.string ⟨#[]⟩,.string ⟨#[]⟩,.string ⟨#[]⟩,.slice none 0 0] 28):=by rw[hVd];exact((((HT5.out.set rfl).1.set rfl).1.set rfl).1.set rfl).1
 clear H5 HK5 HT5
 go_wp2_with fail
 rw[←hVd]
 refine(C6 _ Hd.out).mono ?_
 rintro _ w6 ⟨⟨_,rfl⟩,h6',k6⟩
 have H6:Hid (Rs R _ b w6):=h6'
 have HK6:Hid (Blk w6 b.heap.size #[.string ⟨#[]⟩,.bool false,.int .i64 0,.string ⟨#[]⟩,.string ⟨#[]⟩,.string ⟨#[]⟩,.int .i64 0,.string ⟨#[]⟩,.string ⟨#[]⟩,.string ⟨#[]⟩,.int .i64 0,.string ⟨#[]⟩,.string ⟨#[]⟩,.string ⟨#[]⟩,.slice none 0 0] 28):=HKd.out.keep k6 hRb
 have HT6:Hid (Blk w6 T #[.string t0.s,.bool fo,.int .i64 s1.op,.string s1.ty,.string s1.u.t,.string s1.u.i,.int .i64 0,.string ⟨#[]⟩,.string ⟨#[]⟩,.string ⟨#[]⟩,.int .i64 0,.string ⟨#[]⟩,.string ⟨#[]⟩,.string ⟨#[]⟩,.slice none 0 0] 28):=HTd.out.keep k6 hRT
 clear C6 HKd HTd Hd h6' k6 hVd
 clear y2 f2 y3 f3 y4 f4 y5 f5
 go_wp2_with fail
 refine(C7 _ H6.out).mono ?_
 rintro _ w7 ⟨rfl,h7',k7⟩
 have H7:Hid (Rs R _ b w7):=h7'
 have HK7:Hid (Blk w7 b.heap.size #[.string ⟨#[]⟩,.bool false,.int .i64 0,.string ⟨#[]⟩,.string ⟨#[]⟩,.string ⟨#[]⟩,.int .i64 0,.string ⟨#[]⟩,.string ⟨#[]⟩,.string ⟨#[]⟩,.int .i64 0,.string ⟨#[]⟩,.string ⟨#[]⟩,.string ⟨#[]⟩,.slice none 0 0] 28):=HK6.out.keep k7 hRb
 have HT7:Hid (Blk w7 T #[.string t0.s,.bool fo,.int .i64 s1.op,.string s1.ty,.string s1.u.t,.string s1.u.i,.int .i64 0,.string ⟨#[]⟩,.string ⟨#[]⟩,.string ⟨#[]⟩,.int .i64 0,.string ⟨#[]⟩,.string ⟨#[]⟩,.string ⟨#[]⟩,.slice none 0 0] 28):=HT6.out.keep k7 hRT
 clear C7 HK6 HT6 H6 h7' k7
 have y6:w7.cell? ⟨T,6,none⟩=some (.int .i64 0):=HT7.out.cell 6
 have f6:=HT7.out.free 6
 have y7:w7.cell? ⟨T,7,none⟩=some (.string ⟨#[]⟩):=HT7.out.cell 7
 have f7:=HT7.out.free 7
 have y8:w7.cell? ⟨T,8,none⟩=some (.string ⟨#[]⟩):=HT7.out.cell 8
 have f8:=HT7.out.free 8
 have y9:w7.cell? ⟨T,9,none⟩=some (.string ⟨#[]⟩):=HT7.out.cell 9
 have f9:=HT7.out.free 9
 obtain⟨Ve,hVe⟩:∃V,V=((((w7).setCell ⟨T,6,none⟩ (.int .i64 s2.op)).setCell ⟨T,7,none⟩ (.string s2.ty)).setCell ⟨T,8,none⟩ (.string s2.u.t)).setCell ⟨T,9,none⟩ (.string s2.u.i):=⟨_,rfl⟩
 have He:Hid (Rs R m7 b Ve):=by rw[hVe];exact((((H7.out.set hR (Nat.le_of_lt hTb) 6 _).set hR (Nat.le_of_lt hTb) 7 _).set hR (Nat.le_of_lt hTb) 8 _).set hR (Nat.le_of_lt hTb) 9 _)
 have HKe:Hid (Blk Ve b.heap.size #[.string ⟨#[]⟩,.bool false,.int .i64 0,.string ⟨#[]⟩,.string ⟨#[]⟩,.string ⟨#[]⟩,.int .i64 0,.string ⟨#[]⟩,.string ⟨#[]⟩,.string ⟨#[]⟩,.int .i64 0,.string ⟨#[]⟩,.string ⟨#[]⟩,.string ⟨#[]⟩,.slice none 0 0] 28):=by rw[hVe];exact HK7.out.keep (Keep.trans (Keep.trans (Keep.trans (keepSet w7 T 6 _) (keepSet _ T 7 _) (fun _ e=>.inl e)) (keepSet _ T 8 _) (fun _ e=>.inl e)) (keepSet _ T 9 _) (fun _ e=>.inl e)) hbT'
 have HTe:Hid (Blk Ve T #[.string t0.s,.bool fo,.int .i64 s1.op,.string s1.ty,.string s1.u.t,.string s1.u.i,.int .i64 s2.op,.string s2.ty,.string s2.u.t,.string s2.u.i,.int .i64 0,.string ⟨#[]⟩,.string ⟨#[]⟩,.string ⟨#[]⟩,.slice none 0 0] 28):=by rw[hVe];exact((((HT7.out.set rfl).1.set rfl).1.set rfl).1.set rfl).1
 clear H7 HK7 HT7
 go_wp2_with fail
 rw[←hVe]
 refine(C8 _ He.out).mono ?_
 rintro _ w8 ⟨⟨_,rfl⟩,h8',k8⟩
 have H8:Hid (Rs R _ b w8):=h8'
 have HK8:Hid (Blk w8 b.heap.size #[.string ⟨#[]⟩,.bool false,.int .i64 0,.string ⟨#[]⟩,.string ⟨#[]⟩,.string ⟨#[]⟩,.int .i64 0,.string ⟨#[]⟩,.string ⟨#[]⟩,.string ⟨#[]⟩,.int .i64 0,.string ⟨#[]⟩,.string ⟨#[]⟩,.string ⟨#[]⟩,.slice none 0 0] 28):=HKe.out.keep k8 hRb
 have HT8:Hid (Blk w8 T #[.string t0.s,.bool fo,.int .i64 s1.op,.string s1.ty,.string s1.u.t,.string s1.u.i,.int .i64 s2.op,.string s2.ty,.string s2.u.t,.string s2.u.i,.int .i64 0,.string ⟨#[]⟩,.string ⟨#[]⟩,.string ⟨#[]⟩,.slice none 0 0] 28):=HTe.out.keep k8 hRT
 clear C8 HKe HTe He h8' k8 hVe
 clear y6 f6 y7 f7 y8 f8 y9 f9
 go_wp2_with fail
 refine(C9 _ H8.out).mono ?_
 rintro _ w9 ⟨rfl,h9',k9⟩
 have H9:Hid (Rs R _ b w9):=h9'
 have HK9:Hid (Blk w9 b.heap.size #[.string ⟨#[]⟩,.bool false,.int .i64 0,.string ⟨#[]⟩,.string ⟨#[]⟩,.string ⟨#[]⟩,.int .i64 0,.string ⟨#[]⟩,.string ⟨#[]⟩,.string ⟨#[]⟩,.int .i64 0,.string ⟨#[]⟩,.string ⟨#[]⟩,.string ⟨#[]⟩,.slice none 0 0] 28):=HK8.out.keep k9 hRb
 have HT9:Hid (Blk w9 T #[.string t0.s,.bool fo,.int .i64 s1.op,.string s1.ty,.string s1.u.t,.string s1.u.i,.int .i64 s2.op,.string s2.ty,.string s2.u.t,.string s2.u.i,.int .i64 0,.string ⟨#[]⟩,.string ⟨#[]⟩,.string ⟨#[]⟩,.slice none 0 0] 28):=HT8.out.keep k9 hRT
 clear C9 HK8 HT8 H8 h9' k9
 have y10:w9.cell? ⟨T,10,none⟩=some (.int .i64 0):=HT9.out.cell 10
 have f10:=HT9.out.free 10
 have y11:w9.cell? ⟨T,11,none⟩=some (.string ⟨#[]⟩):=HT9.out.cell 11
 have f11:=HT9.out.free 11
 have y12:w9.cell? ⟨T,12,none⟩=some (.string ⟨#[]⟩):=HT9.out.cell 12
 have f12:=HT9.out.free 12
 have y13:w9.cell? ⟨T,13,none⟩=some (.string ⟨#[]⟩):=HT9.out.cell 13
 have f13:=HT9.out.free 13
 obtain⟨Vf,hVf⟩:∃V,V=((((w9).setCell ⟨T,10,none⟩ (.int .i64 s3.op)).setCell ⟨T,11,none⟩ (.string s3.ty)).setCell ⟨T,12,none⟩ (.string s3.u.t)).setCell ⟨T,13,none⟩ (.string s3.u.i):=⟨_,rfl⟩
 have Hf:Hid (Rs R m9 b Vf):=by rw[hVf];exact((((H9.out.set hR (Nat.le_of_lt hTb) 10 _).set hR (Nat.le_of_lt hTb) 11 _).set hR (Nat.le_of_lt hTb) 12 _).set hR (Nat.le_of_lt hTb) 13 _)
 have HKf:Hid (Blk Vf b.heap.size #[.string ⟨#[]⟩,.bool false,.int .i64 0,.string ⟨#[]⟩,.string ⟨#[]⟩,.string ⟨#[]⟩,.int .i64 0,.string ⟨#[]⟩,.string ⟨#[]⟩,.string ⟨#[]⟩,.int .i64 0,.string ⟨#[]⟩,.string ⟨#[]⟩,.string ⟨#[]⟩,.slice none 0 0] 28):=by rw[hVf];exact HK9.out.keep (Keep.trans (Keep.trans (Keep.trans (keepSet w9 T 10 _) (keepSet _ T 11 _) (fun _ e=>.inl e)) (keepSet _ T 12 _) (fun _ e=>.inl e)) (keepSet _ T 13 _) (fun _ e=>.inl e)) hbT'
 have HTf:Hid (Blk Vf T #[.string t0.s,.bool fo,.int .i64 s1.op,.string s1.ty,.string s1.u.t,.string s1.u.i,.int .i64 s2.op,.string s2.ty,.string s2.u.t,.string s2.u.i,.int .i64 s3.op,.string s3.ty,.string s3.u.t,.string s3.u.i,.slice none 0 0] 28):=by rw[hVf];exact((((HT9.out.set rfl).1.set rfl).1.set rfl).1.set rfl).1
 clear H9 HK9 HT9
 go_wp2_with fail
 rw[←hVf]
 refine(CA _ Hf.out).mono ?_
 rintro _ wa ⟨⟨_,rfl⟩,ha',ka⟩
 have Ha:Hid (Rs R _ b wa):=ha'
 have HKa:Hid (Blk wa b.heap.size #[.string ⟨#[]⟩,.bool false,.int .i64 0,.string ⟨#[]⟩,.string ⟨#[]⟩,.string ⟨#[]⟩,.int .i64 0,.string ⟨#[]⟩,.string ⟨#[]⟩,.string ⟨#[]⟩,.int .i64 0,.string ⟨#[]⟩,.string ⟨#[]⟩,.string ⟨#[]⟩,.slice none 0 0] 28):=HKf.out.keep ka hRb
 have HTa:Hid (Blk wa T #[.string t0.s,.bool fo,.int .i64 s1.op,.string s1.ty,.string s1.u.t,.string s1.u.i,.int .i64 s2.op,.string s2.ty,.string s2.u.t,.string s2.u.i,.int .i64 s3.op,.string s3.ty,.string s3.u.t,.string s3.u.i,.slice none 0 0] 28):=HTf.out.keep ka hRT
 clear CA HKf HTf Hf ha' ka hVf
 clear y10 f10 y11 f11 y12 f12 y13 f13
 have HBB:Hid (b.heap.size≤wa.heap.size):=Ha.out.2.size
 clear hfd
 go_wp2
 go_loopw [] (fun wr=>∃(m:List Tk) (cs:List Cnd) (q:Option Addr) (n c:Nat),Rs R m b wr∧Blk wr b.heap.size #[.string ⟨#[]⟩,.bool false,.int .i64 0,.string ⟨#[]⟩,.string ⟨#[]⟩,.string ⟨#[]⟩,.int .i64 0,.string ⟨#[]⟩,.string ⟨#[]⟩,.string ⟨#[]⟩,.int .i64 0,.string ⟨#[]⟩,.string ⟨#[]⟩,.string ⟨#[]⟩,.slice none 0 0] 28∧Blk wr T #[.string t0.s,.bool fo,.int .i64 s1.op,.string s1.ty,.string s1.u.t,.string s1.u.i,.int .i64 s2.op,.string s2.ty,.string s2.u.t,.string s2.u.i,.int .i64 s3.op,.string s3.ty,.string s3.u.t,.string s3.u.i,.slice q n c] 28∧CRow wr b.heap.size (.slice q n c) cs∧n=cs.length∧Hid (cdsR mA.length mA=cs++cdsR m.length m)∧cs.length+m.length≤mA.length∧Hid (∀t∈m,t.s.size≤140737488351232)) (fun wr=>match wr.cell? ⟨T,14,none⟩with | some (.slice _ n _)=>100001-n | _=>0)
 case atStart=>exact⟨mA,[],none,0,0,Ha.out,HKa.out,HTa.out,CRow.nil _ _,rfl,by show _=_;rfl,by simp,HSZ.out.2⟩
 case round=>
  obtain⟨m,cs,q,n,c,hr,hk2,ht,hcr,hn,HI,hcm,HM⟩:=hrel
  obtain⟨⟨p,pc,ts,i,d,hl⟩,_⟩:=id hr
  have c0:=d.c0
  have c1:=d.c1
  have hRw:=d.lt
  have hle:=d.le
  have hlen:=d.len
  have HR:Hid (Rs R m b wr):=hr
  have HKr:Hid (Blk wr b.heap.size #[.string ⟨#[]⟩,.bool false,.int .i64 0,.string ⟨#[]⟩,.string ⟨#[]⟩,.string ⟨#[]⟩,.int .i64 0,.string ⟨#[]⟩,.string ⟨#[]⟩,.string ⟨#[]⟩,.int .i64 0,.string ⟨#[]⟩,.string ⟨#[]⟩,.string ⟨#[]⟩,.slice none 0 0] 28):=hk2
  have HTr:Hid (Blk wr T #[.string t0.s,.bool fo,.int .i64 s1.op,.string s1.ty,.string s1.u.t,.string s1.u.i,.int .i64 s2.op,.string s2.ty,.string s2.u.t,.string s2.u.i,.int .i64 s3.op,.string s3.ty,.string s3.u.t,.string s3.u.i,.slice q n c] 28):=ht
  have HCR:Hid (CRow wr b.heap.size (.slice q n c) cs):=hcr
  have HNc:Hid (n=cs.length∧cs.length+m.length≤mA.length):=⟨hn,hcm⟩
  have HRT:Hid (∀w',Rs R m b w'→Typed w' R 53):=fun w' k=>by
   obtain⟨⟨_,_,_,_,d',_⟩,_⟩:=k
   exact⟨_,_,d'.blk⟩
  by_cases hlt:i<ts.length
  · have i1:(i:Int)<(ts.length:Int):=by omega
    have hm0:m≠[]:=fun e=>by rw[e]at hl;have:=congrArg List.length hl;rw[List.length_drop,List.length_nil]at this;omega
    obtain⟨cn,hcn⟩:∃x,x=(cdR m).1:=⟨_,rfl⟩
    obtain⟨mn,hmn⟩:∃x,x=(cdR m).2:=⟨_,rfl⟩
    have hce:cdR m=(cn,mn):=by rw[hcn,hmn]
    obtain⟨hst1,hst2⟩:=cdsR_step hm0 hce
    have HST:Hid (cdsR mA.length mA=(cs++[cn])++cdsR mn.length mn∧mn.length<m.length∧∀t∈mn,t.s.size≤140737488351232):=⟨by rw[HI.out,hst1];simp,hst2,fun t h2=>HM.out t (cdR_mem t (by rw[←hmn];exact h2))⟩
    have HC:=fun w' (k:Rs R m b w')=>k.condN HE.out HM.out hce
    clear d hl hm0 hcn hmn hce hst1 hst2 hr hk2 ht hcr hn hcm HI
    go_wp2
    go_region
    go_wp2_with fail
    obtain⟨D,hD⟩:∃D,D=wr.drew.drew:=⟨_,rfl⟩
    have kD:Below wr.heap.size wr D:=by rw[hD];exact kqx
    have HRD:Hid (Rs R m b D):=HR.out.up kD
    have HKD:Hid (Blk D b.heap.size #[.string ⟨#[]⟩,.bool false,.int .i64 0,.string ⟨#[]⟩,.string ⟨#[]⟩,.string ⟨#[]⟩,.int .i64 0,.string ⟨#[]⟩,.string ⟨#[]⟩,.string ⟨#[]⟩,.int .i64 0,.string ⟨#[]⟩,.string ⟨#[]⟩,.string ⟨#[]⟩,.slice none 0 0] 28):=HKr.out.up kD
    have HTD:Hid (Blk D T #[.string t0.s,.bool fo,.int .i64 s1.op,.string s1.ty,.string s1.u.t,.string s1.u.i,.int .i64 s2.op,.string s2.ty,.string s2.u.t,.string s2.u.i,.int .i64 s3.op,.string s3.ty,.string s3.u.t,.string s3.u.i,.slice q n c] 28):=HTr.out.up kD
    have HCRD:Hid (CRow D b.heap.size (.slice q n c) cs):=HCR.out.up kD
    refine wp_region_held_drew (S:=fun _=>True) (by kernel_rfl) trivial (fun hHeld=>?_)
    rw[←hD]
    clear hD kD c0 c1
    refine wpAnyH_take (i:=0) (v:=?_) rfl (by kernel_rfl) (by kernel_rfl) (by kernel_rfl) (fun _ _ _ h=>h) (Or.inl ⟨by kernel_rfl,?_⟩) (by assumption) ?_
    rotate_left
    · intro w hSw
      go_simp
      all_goals with_reducible rfl
    try simp only[Act.put,List.getElem_toArray,List.getElem_cons_succ,List.getElem_cons_zero,List.setIfInBounds_toArray,List.set_cons_zero,List.set_cons_succ]
    refine wpAnyH_take (i:=2) (v:=?_) rfl (by kernel_rfl) (by kernel_rfl) (by kernel_rfl) (fun _ _ _ h=>h) (Or.inl ⟨by kernel_rfl,?_⟩) (by assumption) ?_
    rotate_left
    · intro w hSw
      go_simp
      all_goals with_reducible rfl
    try simp only[Act.put,List.getElem_toArray,List.getElem_cons_succ,List.getElem_cons_zero,List.setIfInBounds_toArray,List.set_cons_zero,List.set_cons_succ]
    refine wpAnyH_ready (rs:=[1,3]) (by kernel_rfl) (by simp) ?_
    refine AllReadyH.cons rfl (fun K hK=>?_) (AllReadyH.cons rfl (fun K hK=>?_) (AllReadyH.nil))
    · have z14:D.cell? ⟨T,14,none⟩=some (.slice q n c):=HTD.out.cell 14
      go_simp
      refine hK.out _ _ trivial (fun hHeld=>?_)
      clear hK K
      try simp only[Act.put,List.getElem_toArray,List.getElem_cons_succ,List.getElem_cons_zero,List.setIfInBounds_toArray,List.set_cons_zero,List.set_cons_succ]
      refine wpAnyH_ready (rs:=[3]) (by kernel_rfl) (by simp) ?_
      refine AllReadyH.cons rfl (fun K hK=>?_) (AllReadyH.nil)
      go_simp
      go_wp2_with fail
      refine(HC _ HRD.out).mono ?_
      rintro _ w5 ⟨⟨q5,n5,rfl,hA5,hty5⟩,h5,k5⟩
      have HRw5:Hid (Rs R mn b w5):=h5
      have HKw5:Hid (Blk w5 b.heap.size #[.string ⟨#[]⟩,.bool false,.int .i64 0,.string ⟨#[]⟩,.string ⟨#[]⟩,.string ⟨#[]⟩,.int .i64 0,.string ⟨#[]⟩,.string ⟨#[]⟩,.string ⟨#[]⟩,.int .i64 0,.string ⟨#[]⟩,.string ⟨#[]⟩,.string ⟨#[]⟩,.slice none 0 0] 28):=HKD.out.keep k5 hRb
      have HTw5:Hid (Blk w5 T #[.string t0.s,.bool fo,.int .i64 s1.op,.string s1.ty,.string s1.u.t,.string s1.u.i,.int .i64 s2.op,.string s2.ty,.string s2.u.t,.string s2.u.i,.int .i64 s3.op,.string s3.ty,.string s3.u.t,.string s3.u.i,.slice q n c] 28):=HTD.out.keep k5 hRT
      have HCRw5:Hid (CRow w5 b.heap.size (.slice q n c) cs):=HCRD.out.keep k5 (fun g hg e=>by have h1:=(HCRD.out.own hg).2.1;have h2:g=R:=e;omega) (fun g e ht=>by have h2:g=R:=e;subst h2;exact ht.ne (HRT.out _ HRD.out) (by decide) rfl)
      have HANw5:Hid (AK0 w5 cn.ex q5 n5∧∀b o,q5=some ⟨b,o,none⟩→Typed w5 b 97):=⟨hA5,hty5⟩
      have HBw5:Hid (b.heap.size≤w5.heap.size):=h5.2.size
      clear h5 k5 hA5 hty5
      refine hK.out _ _ trivial (fun hHeld=>?_)
      clear hK K
      try simp only[Act.put,List.getElem_toArray,List.getElem_cons_succ,List.getElem_cons_zero,List.setIfInBounds_toArray,List.set_cons_zero,List.set_cons_succ]
      refine wpAnyH_ready (rs:=[4]) (by kernel_rfl) (by simp) ?_
      refine AllReadyH.cons rfl (fun K hK=>?_) (AllReadyH.nil)
      go_simp
      obtain⟨w6,hVB⟩:∃V,V=w5.alloc (.cells #[.bool cn.un,.slice q5 cn.ex.length n5] 61):=⟨_,rfl⟩
      have kB:Below w5.heap.size w5 w6:=by rw[hVB];exact kqx
      have HBL:Hid (Blk w6 w5.heap.size #[.bool cn.un,.slice q5 cn.ex.length n5] 61):=by rw[hVB];exact Blk.new _ _ _ rfl
      rw[←hVB]
      clear hVB
      have HRw6:Hid (Rs R mn b w6):=HRw5.out.up kB
      have HKw6:Hid (Blk w6 b.heap.size #[.string ⟨#[]⟩,.bool false,.int .i64 0,.string ⟨#[]⟩,.string ⟨#[]⟩,.string ⟨#[]⟩,.int .i64 0,.string ⟨#[]⟩,.string ⟨#[]⟩,.string ⟨#[]⟩,.int .i64 0,.string ⟨#[]⟩,.string ⟨#[]⟩,.string ⟨#[]⟩,.slice none 0 0] 28):=HKw5.out.up kB
      have HTw6:Hid (Blk w6 T #[.string t0.s,.bool fo,.int .i64 s1.op,.string s1.ty,.string s1.u.t,.string s1.u.i,.int .i64 s2.op,.string s2.ty,.string s2.u.t,.string s2.u.i,.int .i64 s3.op,.string s3.ty,.string s3.u.t,.string s3.u.i,.slice q n c] 28):=HTw5.out.up kB
      have HCRw6:Hid (CRow w6 b.heap.size (.slice q n c) cs):=HCRw5.out.up kB
      have HANw6:Hid (AK0 w6 cn.ex q5 n5∧∀b o,q5=some ⟨b,o,none⟩→Typed w6 b 97):=⟨HANw5.out.1.up kB,fun b' o e=>((HANw5.out.2 b' o e).same (kB.block b' (HANw5.out.2 b' o e).lt))⟩
      have HBw6:Hid (b.heap.size≤w6.heap.size):=Nat.le_trans HBw5.out kB.size
      clear kB
      refine hK.out _ _ trivial (fun hHeld=>?_)
      clear hK K
      try simp only[Act.put,List.getElem_toArray,List.getElem_cons_succ,List.getElem_cons_zero,List.setIfInBounds_toArray,List.set_cons_zero,List.set_cons_succ]
      refine wpAnyH_ready (rs:=[5]) (by kernel_rfl) (by simp) ?_
      refine AllReadyH.cons rfl (fun K hK=>?_) (AllReadyH.nil)
      rw[if_pos (by rfl)]
      refine wp_appendC w6 (.tmp 43) (.tmp 46) rfl b.heap.size (.slice q n c) cs rfl HCRw6.out cn w5.heap.size q5 n5 HBL.out HANw6.out.1 HANw6.out.2 rfl (by have:=HNc.out;have:=HSZ.out.1;omega) HBw6.out ?_
      intro v8 w7 hc8 k8
      have hbw:Below b.heap.size w6 w7:=k8.below HBw6.out (fun g e=>(HCRw6.out.own e).2.1)
      have HRw7:Hid (Rs R mn b w7):=HRw6.out.belowB hbw (Nat.le_refl _) hR
      have HTw7:Hid (Blk w7 T #[.string t0.s,.bool fo,.int .i64 s1.op,.string s1.ty,.string s1.u.t,.string s1.u.i,.int .i64 s2.op,.string s2.ty,.string s2.u.t,.string s2.u.i,.int .i64 s3.op,.string s3.ty,.string s3.u.t,.string s3.u.i,.slice q n c] 28):=HTw6.out.keep k8 (fun e=>(HCRw6.out.own e).2.2.ne ⟨_,_,HTw6.out.blk⟩ (by decide) rfl)
      have HKw7:Hid (Blk w7 b.heap.size #[.string ⟨#[]⟩,.bool false,.int .i64 0,.string ⟨#[]⟩,.string ⟨#[]⟩,.string ⟨#[]⟩,.int .i64 0,.string ⟨#[]⟩,.string ⟨#[]⟩,.string ⟨#[]⟩,.int .i64 0,.string ⟨#[]⟩,.string ⟨#[]⟩,.string ⟨#[]⟩,.slice none 0 0] 28):=HKw6.out.keep k8 (fun e=>(HCRw6.out.own e).2.2.ne ⟨_,_,HKw6.out.blk⟩ (by decide) rfl)
      obtain⟨q8,c8,rfl,_⟩:=hc8.cdl
      have HCRw7:Hid (CRow w7 b.heap.size (.slice q8 (cs++[cn]).length c8) (cs++[cn])):=hc8
      obtain⟨n8,hn8⟩:∃n,n=(cs++[cn]).length:=⟨_,rfl⟩
      have HN8:Hid (n8=(cs++[cn]).length):=hn8
      rw[←hn8]at HCRw7 ⊢
      clear hn8 hc8 k8 hbw
      refine hK.out _ _ trivial (fun hHeld=>?_)
      clear hK K
      try simp only[Act.put,List.getElem_toArray,List.getElem_cons_succ,List.getElem_cons_zero,List.setIfInBounds_toArray,List.set_cons_zero,List.set_cons_succ]
      refine wpAnyH_take (i:=6) (v:=?_) rfl (by kernel_rfl) (by kernel_rfl) (by kernel_rfl) (fun _ _ _ h=>h) (Or.inl ⟨by kernel_rfl,?_⟩) (by assumption) ?_
      rotate_left
      · intro w hSw
        go_simp
        all_goals with_reducible rfl
      try simp only[Act.put,List.getElem_toArray,List.getElem_cons_succ,List.getElem_cons_zero,List.setIfInBounds_toArray,List.set_cons_zero,List.set_cons_succ]
      refine wpAnyH_ready (rs:=[7]) (by kernel_rfl) (by simp) ?_
      refine AllReadyH.cons rfl (fun K hK=>?_) (AllReadyH.nil)
      have z14:w7.cell? ⟨T,14,none⟩=some (.slice q n c):=HTw7.out.cell 14
      have g14:=HTw7.out.free 14
      go_simp
      refine hK.out _ _ trivial (fun hHeld=>?_)
      clear hK K
      try simp only[Act.put,List.getElem_toArray,List.getElem_cons_succ,List.getElem_cons_zero,List.setIfInBounds_toArray,List.set_cons_zero,List.set_cons_succ]
      refine wpAnyH_done (by kernel_rfl) ?_ _
      clear hHeld z14 g14
      have HRn:Hid (Rs R mn b (w7.setCell ⟨T,14,none⟩ (.slice q8 n8 c8))):=HRw7.out.set hR (Nat.le_of_lt hTb) 14 _
      have HKn:Hid (Blk (w7.setCell ⟨T,14,none⟩ (.slice q8 n8 c8)) b.heap.size #[.string ⟨#[]⟩,.bool false,.int .i64 0,.string ⟨#[]⟩,.string ⟨#[]⟩,.string ⟨#[]⟩,.int .i64 0,.string ⟨#[]⟩,.string ⟨#[]⟩,.string ⟨#[]⟩,.int .i64 0,.string ⟨#[]⟩,.string ⟨#[]⟩,.string ⟨#[]⟩,.slice none 0 0] 28):=HKw7.out.keep (keepSet _ T 14 _) hbT'
      have HTn:Hid (Blk (w7.setCell ⟨T,14,none⟩ (.slice q8 n8 c8)) T #[.string t0.s,.bool fo,.int .i64 s1.op,.string s1.ty,.string s1.u.t,.string s1.u.i,.int .i64 s2.op,.string s2.ty,.string s2.u.t,.string s2.u.i,.int .i64 s3.op,.string s3.ty,.string s3.u.t,.string s3.u.i,.slice q8 n8 c8] 28):=(HTw7.out.set rfl).1
      have HCn:Hid (CRow (w7.setCell ⟨T,14,none⟩ (.slice q8 n8 c8)) b.heap.size (.slice q8 n8 c8) (cs++[cn])):=HCRw7.out.keep (keepSet _ T 14 _) (fun g hg e=>by have h2:g=T:=e;subst h2;exact(HCRw7.out.own hg).2.2.ne ⟨_,_,HTw7.out.blk⟩ (by decide) rfl) (fun g e ht=>by have h2:g=T:=e;subst h2;exact ht.ne ⟨_,_,HTw7.out.blk⟩ (by decide) rfl)
      go_wp2
      go_roundw
      case rel=>exact⟨mn,cs++[cn],q8,n8,c8,HRn.out,HKn.out,HTn.out,HCn.out,HN8.out,by show _=_;exact HST.out.1,by have:=HNc.out;have:=HST.out.2.1;simp;omega,HST.out.2.2⟩
      case measure=>
       have e1:=HTn.out.cell 14
       have e2:=HTr.out.cell 14
       have e3:=HN8.out
       have e4:=HNc.out
       have e5:=HSZ.out.1
       simp at e1 e2 e3
       rw[e1,e2]
       simp only
       omega
    · go_simp
      go_wp2_with fail
      refine(HC _ HRD.out).mono ?_
      rintro _ w5 ⟨⟨q5,n5,rfl,hA5,hty5⟩,h5,k5⟩
      have HRw5:Hid (Rs R mn b w5):=h5
      have HKw5:Hid (Blk w5 b.heap.size #[.string ⟨#[]⟩,.bool false,.int .i64 0,.string ⟨#[]⟩,.string ⟨#[]⟩,.string ⟨#[]⟩,.int .i64 0,.string ⟨#[]⟩,.string ⟨#[]⟩,.string ⟨#[]⟩,.int .i64 0,.string ⟨#[]⟩,.string ⟨#[]⟩,.string ⟨#[]⟩,.slice none 0 0] 28):=HKD.out.keep k5 hRb
      have HTw5:Hid (Blk w5 T #[.string t0.s,.bool fo,.int .i64 s1.op,.string s1.ty,.string s1.u.t,.string s1.u.i,.int .i64 s2.op,.string s2.ty,.string s2.u.t,.string s2.u.i,.int .i64 s3.op,.string s3.ty,.string s3.u.t,.string s3.u.i,.slice q n c] 28):=HTD.out.keep k5 hRT
      have HCRw5:Hid (CRow w5 b.heap.size (.slice q n c) cs):=HCRD.out.keep k5 (fun g hg e=>by have h1:=(HCRD.out.own hg).2.1;have h2:g=R:=e;omega) (fun g e ht=>by have h2:g=R:=e;subst h2;exact ht.ne (HRT.out _ HRD.out) (by decide) rfl)
      have HANw5:Hid (AK0 w5 cn.ex q5 n5∧∀b o,q5=some ⟨b,o,none⟩→Typed w5 b 97):=⟨hA5,hty5⟩
      have HBw5:Hid (b.heap.size≤w5.heap.size):=h5.2.size
      clear h5 k5 hA5 hty5
      refine hK.out _ _ trivial (fun hHeld=>?_)
      clear hK K
      try simp only[Act.put,List.getElem_toArray,List.getElem_cons_succ,List.getElem_cons_zero,List.setIfInBounds_toArray,List.set_cons_zero,List.set_cons_succ]
      refine wpAnyH_ready (rs:=[1,4]) (by kernel_rfl) (by simp) ?_
      refine AllReadyH.cons rfl (fun K hK=>?_) (AllReadyH.cons rfl (fun K hK=>?_) (AllReadyH.nil))
      · have z14:w5.cell? ⟨T,14,none⟩=some (.slice q n c):=HTw5.out.cell 14
        go_simp
        refine hK.out _ _ trivial (fun hHeld=>?_)
        clear hK K
        try simp only[Act.put,List.getElem_toArray,List.getElem_cons_succ,List.getElem_cons_zero,List.setIfInBounds_toArray,List.set_cons_zero,List.set_cons_succ]
        refine wpAnyH_ready (rs:=[4]) (by kernel_rfl) (by simp) ?_
        refine AllReadyH.cons rfl (fun K hK=>?_) (AllReadyH.nil)
        go_simp
        obtain⟨w6,hVB⟩:∃V,V=w5.alloc (.cells #[.bool cn.un,.slice q5 cn.ex.length n5] 61):=⟨_,rfl⟩
        have kB:Below w5.heap.size w5 w6:=by rw[hVB];exact kqx
        have HBL:Hid (Blk w6 w5.heap.size #[.bool cn.un,.slice q5 cn.ex.length n5] 61):=by rw[hVB];exact Blk.new _ _ _ rfl
        rw[←hVB]
        clear hVB
        have HRw6:Hid (Rs R mn b w6):=HRw5.out.up kB
        have HKw6:Hid (Blk w6 b.heap.size #[.string ⟨#[]⟩,.bool false,.int .i64 0,.string ⟨#[]⟩,.string ⟨#[]⟩,.string ⟨#[]⟩,.int .i64 0,.string ⟨#[]⟩,.string ⟨#[]⟩,.string ⟨#[]⟩,.int .i64 0,.string ⟨#[]⟩,.string ⟨#[]⟩,.string ⟨#[]⟩,.slice none 0 0] 28):=HKw5.out.up kB
        have HTw6:Hid (Blk w6 T #[.string t0.s,.bool fo,.int .i64 s1.op,.string s1.ty,.string s1.u.t,.string s1.u.i,.int .i64 s2.op,.string s2.ty,.string s2.u.t,.string s2.u.i,.int .i64 s3.op,.string s3.ty,.string s3.u.t,.string s3.u.i,.slice q n c] 28):=HTw5.out.up kB
        have HCRw6:Hid (CRow w6 b.heap.size (.slice q n c) cs):=HCRw5.out.up kB
        have HANw6:Hid (AK0 w6 cn.ex q5 n5∧∀b o,q5=some ⟨b,o,none⟩→Typed w6 b 97):=⟨HANw5.out.1.up kB,fun b' o e=>((HANw5.out.2 b' o e).same (kB.block b' (HANw5.out.2 b' o e).lt))⟩
        have HBw6:Hid (b.heap.size≤w6.heap.size):=Nat.le_trans HBw5.out kB.size
        clear kB
        refine hK.out _ _ trivial (fun hHeld=>?_)
        clear hK K
        try simp only[Act.put,List.getElem_toArray,List.getElem_cons_succ,List.getElem_cons_zero,List.setIfInBounds_toArray,List.set_cons_zero,List.set_cons_succ]
        refine wpAnyH_ready (rs:=[5]) (by kernel_rfl) (by simp) ?_
        refine AllReadyH.cons rfl (fun K hK=>?_) (AllReadyH.nil)
        rw[if_pos (by rfl)]
        refine wp_appendC w6 (.tmp 43) (.tmp 46) rfl b.heap.size (.slice q n c) cs rfl HCRw6.out cn w5.heap.size q5 n5 HBL.out HANw6.out.1 HANw6.out.2 rfl (by have:=HNc.out;have:=HSZ.out.1;omega) HBw6.out ?_
        intro v8 w7 hc8 k8
        have hbw:Below b.heap.size w6 w7:=k8.below HBw6.out (fun g e=>(HCRw6.out.own e).2.1)
        have HRw7:Hid (Rs R mn b w7):=HRw6.out.belowB hbw (Nat.le_refl _) hR
        have HTw7:Hid (Blk w7 T #[.string t0.s,.bool fo,.int .i64 s1.op,.string s1.ty,.string s1.u.t,.string s1.u.i,.int .i64 s2.op,.string s2.ty,.string s2.u.t,.string s2.u.i,.int .i64 s3.op,.string s3.ty,.string s3.u.t,.string s3.u.i,.slice q n c] 28):=HTw6.out.keep k8 (fun e=>(HCRw6.out.own e).2.2.ne ⟨_,_,HTw6.out.blk⟩ (by decide) rfl)
        have HKw7:Hid (Blk w7 b.heap.size #[.string ⟨#[]⟩,.bool false,.int .i64 0,.string ⟨#[]⟩,.string ⟨#[]⟩,.string ⟨#[]⟩,.int .i64 0,.string ⟨#[]⟩,.string ⟨#[]⟩,.string ⟨#[]⟩,.int .i64 0,.string ⟨#[]⟩,.string ⟨#[]⟩,.string ⟨#[]⟩,.slice none 0 0] 28):=HKw6.out.keep k8 (fun e=>(HCRw6.out.own e).2.2.ne ⟨_,_,HKw6.out.blk⟩ (by decide) rfl)
        obtain⟨q8,c8,rfl,_⟩:=hc8.cdl
        have HCRw7:Hid (CRow w7 b.heap.size (.slice q8 (cs++[cn]).length c8) (cs++[cn])):=hc8
        obtain⟨n8,hn8⟩:∃n,n=(cs++[cn]).length:=⟨_,rfl⟩
        have HN8:Hid (n8=(cs++[cn]).length):=hn8
        rw[←hn8]at HCRw7 ⊢
        clear hn8 hc8 k8 hbw
        refine hK.out _ _ trivial (fun hHeld=>?_)
        clear hK K
        try simp only[Act.put,List.getElem_toArray,List.getElem_cons_succ,List.getElem_cons_zero,List.setIfInBounds_toArray,List.set_cons_zero,List.set_cons_succ]
        refine wpAnyH_take (i:=6) (v:=?_) rfl (by kernel_rfl) (by kernel_rfl) (by kernel_rfl) (fun _ _ _ h=>h) (Or.inl ⟨by kernel_rfl,?_⟩) (by assumption) ?_
        rotate_left
        · intro w hSw
          go_simp
          all_goals with_reducible rfl
        try simp only[Act.put,List.getElem_toArray,List.getElem_cons_succ,List.getElem_cons_zero,List.setIfInBounds_toArray,List.set_cons_zero,List.set_cons_succ]
        refine wpAnyH_ready (rs:=[7]) (by kernel_rfl) (by simp) ?_
        refine AllReadyH.cons rfl (fun K hK=>?_) (AllReadyH.nil)
        have z14:w7.cell? ⟨T,14,none⟩=some (.slice q n c):=HTw7.out.cell 14
        have g14:=HTw7.out.free 14
        go_simp
        refine hK.out _ _ trivial (fun hHeld=>?_)
        clear hK K
        try simp only[Act.put,List.getElem_toArray,List.getElem_cons_succ,List.getElem_cons_zero,List.setIfInBounds_toArray,List.set_cons_zero,List.set_cons_succ]
        refine wpAnyH_done (by kernel_rfl) ?_ _
        clear hHeld z14 g14
        have HRn:Hid (Rs R mn b (w7.setCell ⟨T,14,none⟩ (.slice q8 n8 c8))):=HRw7.out.set hR (Nat.le_of_lt hTb) 14 _
        have HKn:Hid (Blk (w7.setCell ⟨T,14,none⟩ (.slice q8 n8 c8)) b.heap.size #[.string ⟨#[]⟩,.bool false,.int .i64 0,.string ⟨#[]⟩,.string ⟨#[]⟩,.string ⟨#[]⟩,.int .i64 0,.string ⟨#[]⟩,.string ⟨#[]⟩,.string ⟨#[]⟩,.int .i64 0,.string ⟨#[]⟩,.string ⟨#[]⟩,.string ⟨#[]⟩,.slice none 0 0] 28):=HKw7.out.keep (keepSet _ T 14 _) hbT'
        have HTn:Hid (Blk (w7.setCell ⟨T,14,none⟩ (.slice q8 n8 c8)) T #[.string t0.s,.bool fo,.int .i64 s1.op,.string s1.ty,.string s1.u.t,.string s1.u.i,.int .i64 s2.op,.string s2.ty,.string s2.u.t,.string s2.u.i,.int .i64 s3.op,.string s3.ty,.string s3.u.t,.string s3.u.i,.slice q8 n8 c8] 28):=(HTw7.out.set rfl).1
        have HCn:Hid (CRow (w7.setCell ⟨T,14,none⟩ (.slice q8 n8 c8)) b.heap.size (.slice q8 n8 c8) (cs++[cn])):=HCRw7.out.keep (keepSet _ T 14 _) (fun g hg e=>by have h2:g=T:=e;subst h2;exact(HCRw7.out.own hg).2.2.ne ⟨_,_,HTw7.out.blk⟩ (by decide) rfl) (fun g e ht=>by have h2:g=T:=e;subst h2;exact ht.ne ⟨_,_,HTw7.out.blk⟩ (by decide) rfl)
        go_wp2
        go_roundw
        case rel=>exact⟨mn,cs++[cn],q8,n8,c8,HRn.out,HKn.out,HTn.out,HCn.out,HN8.out,by show _=_;exact HST.out.1,by have:=HNc.out;have:=HST.out.2.1;simp;omega,HST.out.2.2⟩
        case measure=>
         have e1:=HTn.out.cell 14
         have e2:=HTr.out.cell 14
         have e3:=HN8.out
         have e4:=HNc.out
         have e5:=HSZ.out.1
         simp at e1 e2 e3
         rw[e1,e2]
         simp only
         omega
      · go_simp
        obtain⟨w6,hVB⟩:∃V,V=w5.alloc (.cells #[.bool cn.un,.slice q5 cn.ex.length n5] 61):=⟨_,rfl⟩
        have kB:Below w5.heap.size w5 w6:=by rw[hVB];exact kqx
        have HBL:Hid (Blk w6 w5.heap.size #[.bool cn.un,.slice q5 cn.ex.length n5] 61):=by rw[hVB];exact Blk.new _ _ _ rfl
        rw[←hVB]
        clear hVB
        have HRw6:Hid (Rs R mn b w6):=HRw5.out.up kB
        have HKw6:Hid (Blk w6 b.heap.size #[.string ⟨#[]⟩,.bool false,.int .i64 0,.string ⟨#[]⟩,.string ⟨#[]⟩,.string ⟨#[]⟩,.int .i64 0,.string ⟨#[]⟩,.string ⟨#[]⟩,.string ⟨#[]⟩,.int .i64 0,.string ⟨#[]⟩,.string ⟨#[]⟩,.string ⟨#[]⟩,.slice none 0 0] 28):=HKw5.out.up kB
        have HTw6:Hid (Blk w6 T #[.string t0.s,.bool fo,.int .i64 s1.op,.string s1.ty,.string s1.u.t,.string s1.u.i,.int .i64 s2.op,.string s2.ty,.string s2.u.t,.string s2.u.i,.int .i64 s3.op,.string s3.ty,.string s3.u.t,.string s3.u.i,.slice q n c] 28):=HTw5.out.up kB
        have HCRw6:Hid (CRow w6 b.heap.size (.slice q n c) cs):=HCRw5.out.up kB
        have HANw6:Hid (AK0 w6 cn.ex q5 n5∧∀b o,q5=some ⟨b,o,none⟩→Typed w6 b 97):=⟨HANw5.out.1.up kB,fun b' o e=>((HANw5.out.2 b' o e).same (kB.block b' (HANw5.out.2 b' o e).lt))⟩
        have HBw6:Hid (b.heap.size≤w6.heap.size):=Nat.le_trans HBw5.out kB.size
        clear kB
        refine hK.out _ _ trivial (fun hHeld=>?_)
        clear hK K
        try simp only[Act.put,List.getElem_toArray,List.getElem_cons_succ,List.getElem_cons_zero,List.setIfInBounds_toArray,List.set_cons_zero,List.set_cons_succ]
        refine wpAnyH_ready (rs:=[1]) (by kernel_rfl) (by simp) ?_
        refine AllReadyH.cons rfl (fun K hK=>?_) (AllReadyH.nil)
        have z14:w6.cell? ⟨T,14,none⟩=some (.slice q n c):=HTw6.out.cell 14
        go_simp
        refine hK.out _ _ trivial (fun hHeld=>?_)
        clear hK K
        try simp only[Act.put,List.getElem_toArray,List.getElem_cons_succ,List.getElem_cons_zero,List.setIfInBounds_toArray,List.set_cons_zero,List.set_cons_succ]
        refine wpAnyH_ready (rs:=[5]) (by kernel_rfl) (by simp) ?_
        refine AllReadyH.cons rfl (fun K hK=>?_) (AllReadyH.nil)
        rw[if_pos (by rfl)]
        refine wp_appendC w6 (.tmp 43) (.tmp 46) rfl b.heap.size (.slice q n c) cs rfl HCRw6.out cn w5.heap.size q5 n5 HBL.out HANw6.out.1 HANw6.out.2 rfl (by have:=HNc.out;have:=HSZ.out.1;omega) HBw6.out ?_
        intro v8 w7 hc8 k8
        have hbw:Below b.heap.size w6 w7:=k8.below HBw6.out (fun g e=>(HCRw6.out.own e).2.1)
        have HRw7:Hid (Rs R mn b w7):=HRw6.out.belowB hbw (Nat.le_refl _) hR
        have HTw7:Hid (Blk w7 T #[.string t0.s,.bool fo,.int .i64 s1.op,.string s1.ty,.string s1.u.t,.string s1.u.i,.int .i64 s2.op,.string s2.ty,.string s2.u.t,.string s2.u.i,.int .i64 s3.op,.string s3.ty,.string s3.u.t,.string s3.u.i,.slice q n c] 28):=HTw6.out.keep k8 (fun e=>(HCRw6.out.own e).2.2.ne ⟨_,_,HTw6.out.blk⟩ (by decide) rfl)
        have HKw7:Hid (Blk w7 b.heap.size #[.string ⟨#[]⟩,.bool false,.int .i64 0,.string ⟨#[]⟩,.string ⟨#[]⟩,.string ⟨#[]⟩,.int .i64 0,.string ⟨#[]⟩,.string ⟨#[]⟩,.string ⟨#[]⟩,.int .i64 0,.string ⟨#[]⟩,.string ⟨#[]⟩,.string ⟨#[]⟩,.slice none 0 0] 28):=HKw6.out.keep k8 (fun e=>(HCRw6.out.own e).2.2.ne ⟨_,_,HKw6.out.blk⟩ (by decide) rfl)
        obtain⟨q8,c8,rfl,_⟩:=hc8.cdl
        have HCRw7:Hid (CRow w7 b.heap.size (.slice q8 (cs++[cn]).length c8) (cs++[cn])):=hc8
        obtain⟨n8,hn8⟩:∃n,n=(cs++[cn]).length:=⟨_,rfl⟩
        have HN8:Hid (n8=(cs++[cn]).length):=hn8
        rw[←hn8]at HCRw7 ⊢
        clear hn8 hc8 k8 hbw
        refine hK.out _ _ trivial (fun hHeld=>?_)
        clear hK K
        try simp only[Act.put,List.getElem_toArray,List.getElem_cons_succ,List.getElem_cons_zero,List.setIfInBounds_toArray,List.set_cons_zero,List.set_cons_succ]
        refine wpAnyH_take (i:=6) (v:=?_) rfl (by kernel_rfl) (by kernel_rfl) (by kernel_rfl) (fun _ _ _ h=>h) (Or.inl ⟨by kernel_rfl,?_⟩) (by assumption) ?_
        rotate_left
        · intro w hSw
          go_simp
          all_goals with_reducible rfl
        try simp only[Act.put,List.getElem_toArray,List.getElem_cons_succ,List.getElem_cons_zero,List.setIfInBounds_toArray,List.set_cons_zero,List.set_cons_succ]
        refine wpAnyH_ready (rs:=[7]) (by kernel_rfl) (by simp) ?_
        refine AllReadyH.cons rfl (fun K hK=>?_) (AllReadyH.nil)
        have z14:w7.cell? ⟨T,14,none⟩=some (.slice q n c):=HTw7.out.cell 14
        have g14:=HTw7.out.free 14
        go_simp
        refine hK.out _ _ trivial (fun hHeld=>?_)
        clear hK K
        try simp only[Act.put,List.getElem_toArray,List.getElem_cons_succ,List.getElem_cons_zero,List.setIfInBounds_toArray,List.set_cons_zero,List.set_cons_succ]
        refine wpAnyH_done (by kernel_rfl) ?_ _
        clear hHeld z14 g14
        have HRn:Hid (Rs R mn b (w7.setCell ⟨T,14,none⟩ (.slice q8 n8 c8))):=HRw7.out.set hR (Nat.le_of_lt hTb) 14 _
        have HKn:Hid (Blk (w7.setCell ⟨T,14,none⟩ (.slice q8 n8 c8)) b.heap.size #[.string ⟨#[]⟩,.bool false,.int .i64 0,.string ⟨#[]⟩,.string ⟨#[]⟩,.string ⟨#[]⟩,.int .i64 0,.string ⟨#[]⟩,.string ⟨#[]⟩,.string ⟨#[]⟩,.int .i64 0,.string ⟨#[]⟩,.string ⟨#[]⟩,.string ⟨#[]⟩,.slice none 0 0] 28):=HKw7.out.keep (keepSet _ T 14 _) hbT'
        have HTn:Hid (Blk (w7.setCell ⟨T,14,none⟩ (.slice q8 n8 c8)) T #[.string t0.s,.bool fo,.int .i64 s1.op,.string s1.ty,.string s1.u.t,.string s1.u.i,.int .i64 s2.op,.string s2.ty,.string s2.u.t,.string s2.u.i,.int .i64 s3.op,.string s3.ty,.string s3.u.t,.string s3.u.i,.slice q8 n8 c8] 28):=(HTw7.out.set rfl).1
        have HCn:Hid (CRow (w7.setCell ⟨T,14,none⟩ (.slice q8 n8 c8)) b.heap.size (.slice q8 n8 c8) (cs++[cn])):=HCRw7.out.keep (keepSet _ T 14 _) (fun g hg e=>by have h2:g=T:=e;subst h2;exact(HCRw7.out.own hg).2.2.ne ⟨_,_,HTw7.out.blk⟩ (by decide) rfl) (fun g e ht=>by have h2:g=T:=e;subst h2;exact ht.ne ⟨_,_,HTw7.out.blk⟩ (by decide) rfl)
        go_wp2
        go_roundw
        case rel=>exact⟨mn,cs++[cn],q8,n8,c8,HRn.out,HKn.out,HTn.out,HCn.out,HN8.out,by show _=_;exact HST.out.1,by have:=HNc.out;have:=HST.out.2.1;simp;omega,HST.out.2.2⟩
        case measure=>
         have e1:=HTn.out.cell 14
         have e2:=HTr.out.cell 14
         have e3:=HN8.out
         have e4:=HNc.out
         have e5:=HSZ.out.1
         simp at e1 e2 e3
         rw[e1,e2]
         simp only
         omega
  · have i1:¬(i:Int)<(ts.length:Int):=by omega
    have e:m=[]:=by rw[←hl];exact drop_none hlt
    subst e
    have HE2:Hid (poR l=⟨t0.s,fo,s1,s2,s3,cs⟩):=by
     show _=_
     rw[HPO.out,HI.out]
     simp[cdsR]
    clear d hl hr hk2 ht hcr hn hcm HI
    have y0:wr.cell? ⟨T,0,none⟩=some (.string t0.s):=HTr.out.cell 0
    have y1:wr.cell? ⟨T,1,none⟩=some (.bool fo):=HTr.out.cell 1
    have y2:wr.cell? ⟨T,2,none⟩=some (.int .i64 s1.op):=HTr.out.cell 2
    have y3:wr.cell? ⟨T,3,none⟩=some (.string s1.ty):=HTr.out.cell 3
    have y4:wr.cell? ⟨T,4,none⟩=some (.string s1.u.t):=HTr.out.cell 4
    have y5:wr.cell? ⟨T,5,none⟩=some (.string s1.u.i):=HTr.out.cell 5
    have y6:wr.cell? ⟨T,6,none⟩=some (.int .i64 s2.op):=HTr.out.cell 6
    have y7:wr.cell? ⟨T,7,none⟩=some (.string s2.ty):=HTr.out.cell 7
    have y8:wr.cell? ⟨T,8,none⟩=some (.string s2.u.t):=HTr.out.cell 8
    have y9:wr.cell? ⟨T,9,none⟩=some (.string s2.u.i):=HTr.out.cell 9
    have y10:wr.cell? ⟨T,10,none⟩=some (.int .i64 s3.op):=HTr.out.cell 10
    have y11:wr.cell? ⟨T,11,none⟩=some (.string s3.ty):=HTr.out.cell 11
    have y12:wr.cell? ⟨T,12,none⟩=some (.string s3.u.t):=HTr.out.cell 12
    have y13:wr.cell? ⟨T,13,none⟩=some (.string s3.u.i):=HTr.out.cell 13
    have y14:wr.cell? ⟨T,14,none⟩=some (.slice q n c):=HTr.out.cell 14
    have x0:wr.cell? ⟨b.heap.size,0,none⟩=some (.string ⟨#[]⟩):=HKr.out.cell 0
    have fx0:=HKr.out.free 0
    have x1:wr.cell? ⟨b.heap.size,1,none⟩=some (.bool false):=HKr.out.cell 1
    have fx1:=HKr.out.free 1
    have x2:wr.cell? ⟨b.heap.size,2,none⟩=some (.int .i64 0):=HKr.out.cell 2
    have fx2:=HKr.out.free 2
    have x3:wr.cell? ⟨b.heap.size,3,none⟩=some (.string ⟨#[]⟩):=HKr.out.cell 3
    have fx3:=HKr.out.free 3
    have x4:wr.cell? ⟨b.heap.size,4,none⟩=some (.string ⟨#[]⟩):=HKr.out.cell 4
    have fx4:=HKr.out.free 4
    have x5:wr.cell? ⟨b.heap.size,5,none⟩=some (.string ⟨#[]⟩):=HKr.out.cell 5
    have fx5:=HKr.out.free 5
    have x6:wr.cell? ⟨b.heap.size,6,none⟩=some (.int .i64 0):=HKr.out.cell 6
    have fx6:=HKr.out.free 6
    have x7:wr.cell? ⟨b.heap.size,7,none⟩=some (.string ⟨#[]⟩):=HKr.out.cell 7
    have fx7:=HKr.out.free 7
    have x8:wr.cell? ⟨b.heap.size,8,none⟩=some (.string ⟨#[]⟩):=HKr.out.cell 8
    have fx8:=HKr.out.free 8
    have x9:wr.cell? ⟨b.heap.size,9,none⟩=some (.string ⟨#[]⟩):=HKr.out.cell 9
    have fx9:=HKr.out.free 9
    have x10:wr.cell? ⟨b.heap.size,10,none⟩=some (.int .i64 0):=HKr.out.cell 10
    have fx10:=HKr.out.free 10
    have x11:wr.cell? ⟨b.heap.size,11,none⟩=some (.string ⟨#[]⟩):=HKr.out.cell 11
    have fx11:=HKr.out.free 11
    have x12:wr.cell? ⟨b.heap.size,12,none⟩=some (.string ⟨#[]⟩):=HKr.out.cell 12
    have fx12:=HKr.out.free 12
    have x13:wr.cell? ⟨b.heap.size,13,none⟩=some (.string ⟨#[]⟩):=HKr.out.cell 13
    have fx13:=HKr.out.free 13
    have x14:wr.cell? ⟨b.heap.size,14,none⟩=some (.slice none 0 0):=HKr.out.cell 14
    have fx14:=HKr.out.free 14
    go_wp2
    go_region
    go_wp2
    obtain⟨X,hX⟩:∃X,X=(((((((((((((((wr).setCell ⟨b.heap.size,0,none⟩ (.string t0.s)).setCell ⟨b.heap.size,1,none⟩ (.bool fo)).setCell ⟨b.heap.size,2,none⟩ (.int .i64 s1.op)).setCell ⟨b.heap.size,3,none⟩ (.string s1.ty)).setCell ⟨b.heap.size,4,none⟩ (.string s1.u.t)).setCell ⟨b.heap.size,5,none⟩ (.string s1.u.i)).setCell ⟨b.heap.size,6,none⟩ (.int .i64 s2.op)).setCell ⟨b.heap.size,7,none⟩ (.string s2.ty)).setCell ⟨b.heap.size,8,none⟩ (.string s2.u.t)).setCell ⟨b.heap.size,9,none⟩ (.string s2.u.i)).setCell ⟨b.heap.size,10,none⟩ (.int .i64 s3.op)).setCell ⟨b.heap.size,11,none⟩ (.string s3.ty)).setCell ⟨b.heap.size,12,none⟩ (.string s3.u.t)).setCell ⟨b.heap.size,13,none⟩ (.string s3.u.i)).setCell ⟨b.heap.size,14,none⟩ (.slice q n c):=⟨_,rfl⟩
    rw[←hX]
    have hb:Blk X b.heap.size #[.string t0.s,.bool fo,.int .i64 s1.op,.string s1.ty,.string s1.u.t,.string s1.u.i,.int .i64 s2.op,.string s2.ty,.string s2.u.t,.string s2.u.i,.int .i64 s3.op,.string s3.ty,.string s3.u.t,.string s3.u.i,.slice q n c] 28:=by rw[hX];exact cells15 HKr.out (.string t0.s) (.bool fo) (.int .i64 s1.op) (.string s1.ty) (.string s1.u.t) (.string s1.u.i) (.int .i64 s2.op) (.string s2.ty) (.string s2.u.t) (.string s2.u.i) (.int .i64 s3.op) (.string s3.ty) (.string s3.u.t) (.string s3.u.i) (.slice q n c)
    have HRX:Hid (Rs R [] b X):=by rw[hX];exact HR.out.set15 hR (Nat.le_refl _) _ _ _ _ _ _ _ _ _ _ _ _ _ _ _
    have hcr:CRow X b.heap.size (.slice q n c) cs:=by rw[hX];exact HCR.out.keep (keep15 wr b.heap.size (.string t0.s) (.bool fo) (.int .i64 s1.op) (.string s1.ty) (.string s1.u.t) (.string s1.u.i) (.int .i64 s2.op) (.string s2.ty) (.string s2.u.t) (.string s2.u.i) (.int .i64 s3.op) (.string s3.ty) (.string s3.u.t) (.string s3.u.i) (.slice q n c)) (fun g hg e=>by have h2:g=b.heap.size:=e;subst h2;exact(HCR.out.own hg).2.2.ne ⟨_,_,HKr.out.blk⟩ (by decide) rfl) (fun g e ht=>by have h2:g=b.heap.size:=e;subst h2;exact ht.ne ⟨_,_,HKr.out.blk⟩ (by decide) rfl)
    clear hX
    have z0:=hb.cell 0
    have z1:=hb.cell 1
    have z2:=hb.cell 2
    have z3:=hb.cell 3
    have z4:=hb.cell 4
    have z5:=hb.cell 5
    have z6:=hb.cell 6
    have z7:=hb.cell 7
    have z8:=hb.cell 8
    have z9:=hb.cell 9
    have z10:=hb.cell 10
    have z11:=hb.cell 11
    have z12:=hb.cell 12
    have z13:=hb.cell 13
    have z14:=hb.cell 14
    simp only[List.getElem?_toArray,List.getElem?_cons_zero,List.getElem?_cons_succ]at z0 z1 z2 z3 z4 z5 z6 z7 z8 z9 z10 z11 z12 z13 z14
    obtain⟨q9,c9,e9,hcd,hle9,hcm9⟩:=hcr.cdl
    injection e9 with e91 e92 e93
    subst e91 e93
    refine bodyPost_ret (v:=.agg #[.string t0.s,.bool fo,.int .i64 s1.op,.string s1.ty,.string s1.u.t,.string s1.u.i,.int .i64 s2.op,.string s2.ty,.string s2.u.t,.string s2.u.i,.int .i64 s3.op,.string s3.ty,.string s3.u.t,.string s3.u.i,.slice q n c]) (by simp[results,Tryz.results16,go_sem,z0,z1,z2,z3,z4,z5,z6,z7,z8,z9,z10,z11,z12,z13,z14]) rfl ⟨⟨q,c,?_,?_,?_,hcm9⟩,?_⟩
    · rw[HE2.out,HNc.out.1];rfl
    · rw[HE2.out];exact hcd.up kqx
    · rw[HE2.out];exact hle9
    · exact HRX.out.up kqx
end
end Go.Proofs.YtjkepjbfgeldnaaGreatDoor
