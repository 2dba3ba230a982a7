import Derived.Test.YtjkepjbfgeldnaaGreatDoorShelfGrow
import Derived.Test.YtjkepjbfgeldnaaGreatDoorB16
set_option linter.unusedVariables false
set_option maxHeartbeats 12000000
namespace Go.Proofs.YtjkepjbfgeldnaaGreatDoor
open Go.RowKit Go.Shelf
set_option maxRecDepth 100000
theorem growN_any (n:Nat)(w:World)(hn:n≤1099511627776):
 Calls Tryz.prog 194 #[.slice none 0 0,.int .i64 n] w fun e w'=>(∃v,e= .returned v∧ON w' w.heap.size v []∧(n=0→v= .slice none 0 0))∧Below w.heap.size w w':=by
 by_cases h0:n=0
 · subst h0
   refine(Any8.slices_Grow_room Tryz.growN none 0 0 0 w (Nat.le_refl _) (by decide) (by decide) (Nat.le_refl _)).mono ?_
   rintro e w' ⟨rfl,rfl⟩
   exact⟨⟨_,rfl,⟨World.ownsRow_nil _ _ _ _,fun x hx=>by cases hx⟩,fun _=>rfl⟩,Below.refl _ _⟩
 · obtain⟨i0,hi,hz0,hz1,hz2⟩:=info_parts Tryz.infoNode
   refine(Any8.slices_Grow_grow Tryz.growN i0 (.agg #[.int .i64 0,.int .i64 0,.string ⟨#[]⟩,.string ⟨#[]⟩]) hi hz0 (by omega) none 0 0 n [] w (Nat.le_refl _) (by omega) (by rw[hz2];omega) (by omega) (by simp) (fun _=>rfl) (fun a h=>by cases h)).mono ?_
   rintro e w' ⟨rfl,rfl⟩
   refine⟨⟨_,rfl,⟨?_,fun x hx=>by cases hx⟩,fun h=>absurd h h0⟩,?_⟩
   · have hge:=grownCap_ge w (0+n) 0 (Tryz.growN_ren.t 25)
     rw[Nat.zero_add]at hge
     refine⟨rfl,.inr ⟨w.heap.size,_,_,rfl,Nat.le_refl _,heap_alloc_new _ _,Nat.zero_le _,?_,?_,?_⟩⟩
     · exact grownCap_le_maxLen w (0+n) 0 _ (by unfold maxLen;omega)
     · simp only[Array.size_append,List.size_toArray,size_zeroCells,Value.cells,List.length_nil]
       simp
       omega
     · simp[ncells]
   · exact((Below.refl _ w).drew).alloc (Nat.le_refl _) _
end Go.Proofs.YtjkepjbfgeldnaaGreatDoor
