import Derived.Test.YtnbkfggmpiccjaaGreatDoorShelfSort
import Derived.Test.YtnbkfggmpiccjaaGreatDoorE11
set_option linter.unusedVariables false
set_option maxHeartbeats 12000000
namespace Go.Proofs.YtnbkfggmpiccjaaGreatDoor
open Go.RowKit Go.Sort Go.Shelf
structure SlE (w:World)(blk:Nat) where
 u:Value
 L:List Nd
 ok:∃q c,u= .slice q L.length c∧NL w q L∧L.length≤maxLen∧∀b o,q=some ⟨b,o,none⟩→L=[]∨b≠blk
instance (w:World) (blk:Nat):Inhabited (SlE w blk):=⟨⟨.slice none 0 0,[],none,0,rfl,.inl rfl,Nat.zero_le _,fun b o h=>by cases h⟩⟩
def SlE.cf {w:World}{blk:Nat}(x y:SlE w blk):Int:=lsC x.L y.L
theorem cf_swo (w:World)(blk:Nat):SWO (ltOf (SlE.cf (w:=w) (blk:=blk))) where
 irrefl x:=by unfold ltOf SlE.cf;rw[lsC_is.self];rfl
 trans x y z h1 h2:=by
  unfold ltOf SlE.cf at *
  simp at *
  exact lsC_is.lt_le h1 (by omega)
 ntrans x y z h1 h2:=by
  unfold ltOf SlE.cf at *
  simp at *
  have a:=lsC_is.neg x.L y.L
  have b:=lsC_is.neg y.L z.L
  have c:=lsC_is.neg x.L z.L
  have:=lsC_is.trans z.L y.L x.L (by omega) (by omega)
  omega
theorem up_grow {w w':World}(h:Up w w'):∃q os,w'=grow (w.drewN q) os:=by
 refine⟨w'.drawn-w.drawn,w'.heap.extract w.heap.size w'.heap.size,?_⟩
 obtain⟨hb,hd⟩:=h
 obtain⟨h1,h2,h3,h4,h5⟩:=hb
 cases w with | mk heap tape drawn os output=>
 cases w' with | mk heap' tape' drawn' os' output'=>
 simp only at *
 subst h1 h2 h3
 unfold grow World.drewN
 simp only[World.mk.injEq,true_and,and_true]
 refine⟨?_,by omega⟩
 apply Array.ext_getElem?
 intro k
 rw[Array.getElem?_append]
 split
 · exact h5 k ‹_›
 · rename_i hk
   rw[Array.getElem?_extract]
   by_cases hlt:k<heap'.size
   · rw[if_pos (by omega)]
     congr 1;omega
   · rw[if_neg (by omega),Array.getElem?_eq_none (by omega)]
theorem NL.sorting {α :Type}[Inhabited α]{enc: α →Value}{w:World}{blk off m:Nat}{dk:Array α}{os:Array Obj}{q:Option Addr}{L:List Nd}(h:NL w q L)(hne:∀b o,q=some ⟨b,o,none⟩→L=[]∨b≠blk):NL (sortWorld enc w blk off m dk os) q L:=by
 rcases h with h | ⟨b,o,h1,h2,h3⟩
 · exact .inl h
 · rcases hne b o h1 with e | hb
   · exact .inl e
   · have hs:(putRow enc (Sort.ahead w m) blk off dk).heap.size=w.heap.size:=by simp[Go.Sort.size_putRow,Sort.ahead]
     have hc:∀a,(sortWorld enc w blk off m dk os).cell? ⟨b,a,none⟩=w.cell? ⟨b,a,none⟩:=fun a=>by
      unfold sortWorld
      rw[cell?_grow _ _ _ (by rw[hs];exact h2),cell?_putRow_other _ _ _ _ _ _ (.inl hb)]
      rfl
     refine .inr ⟨b,o,h1,by unfold sortWorld;simp[hs];omega,fun i x hx=>?_⟩
     simp only[hc]
     exact h3 i x hx
theorem order_lays (blk off size:Nat)(w:World):CmpLays1 Tryz.prog 143 #[] (SlE.u (w:=w) (blk:=blk)) SlE.cf blk off size w:=by
 intro m os dk _ x y
 obtain⟨qx,cx,ex,hx,lx,nx⟩:=x.ok
 obtain⟨qy,cy,ey,hy,ly,ny⟩:=y.ok
 rw[ex,ey]
 exact(order_any x.L y.L qx qy cx cy _ (hx.sorting nx) (hy.sorting ny) lx ly).mono fun e w' ⟨he,hu⟩=>⟨he,up_grow hu⟩
theorem sortLists_fn (blk off cap:Nat)(w:World)(d:Array (SlE w blk))(hH:Holds SlE.u w blk off d)(hblk:blk<w.heap.size)(hsz:d.size<4611686018427387904):
 Calls Tryz.prog 142 #[.slice (some ⟨blk,off,none⟩) d.size cap,.func (.func 143) #[] #[]] w fun e w'=>
  e= .returned (.tuple #[])∧∃d' n os,PermIn 0 d.size d d'∧SortedIn (ltOf SlE.cf) 0 d.size d'∧w'=sortWorld SlE.u w blk off n d' os:=by
 have eg:∀args w,(callFunc 143 args).run Tryz.prog w= .ok (.enter 143 args) w:=enters_of Tryz.func143 (by kernel_rfl) rfl
 have h:=Any.slices_SortFunc Tryz.sortF SlE.u (fun x=>by obtain⟨q,c,e,_⟩:=x.ok;rw[e];rfl) SlE.cf (cf_swo w blk) 143 #[] blk off cap d w eg (order_lays blk off d.size w) hH hblk hsz
 exact h
end Go.Proofs.YtnbkfggmpiccjaaGreatDoor
