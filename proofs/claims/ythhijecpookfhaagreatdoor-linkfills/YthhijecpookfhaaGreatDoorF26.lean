import Derived.Test.YthhijecpookfhaaGreatDoorF24
import Derived.Test.YthhijecpookfhaaGreatDoorF25
import Derived.Test.YthhijecpookfhaaGreatDoorF23
import Derived.Test.YthhijecpookfhaaGreatDoorF15
import Derived.Test.YthhijecpookfhaaGreatDoorF20
set_option linter.unusedVariables false
set_option maxHeartbeats 12000000
namespace Go.Proofs.YthhijecpookfhaaGreatDoor
open Go.RowKit
set_option linter.unusedSimpArgs false
set_option linter.unusedSectionVars false
set_option maxRecDepth 100000
theorem TL.lit1 (w:World)(a:ByteArray):TL (w.alloc (.cells #[.string a] 9)) (some ⟨w.heap.size,0,none⟩) [a]:=by
 refine .inr ⟨w.heap.size,0,rfl,by simp,fun i v hi=>?_⟩
 match i,hi with
 | 0,hi=>simp at hi;subst hi;simp[go_sem]
 | i+1,hi=>simp at hi
theorem same_texts {L:List ByteArray}{n:Nat}(hn:L.length=n)(hl:n≤2){w:World}{p q:Option Addr}{c d:Nat}(h:TL w p L)(k:TL w q L):
 Calls Tryz.prog 5 #[.slice p n c,.slice q n d] w fun e w'=>e= .returned (.bool true)∧Below w.heap.size w w':=by
 subst hn
 refine(sameTexts_any L L p q c d w h k (by unfold maxLen;omega) (by unfold maxLen;omega)).mono ?_
 rintro e w' ⟨h1,n,rfl⟩
 rw[decide_eq_true rfl]at h1
 exact⟨h1,⟨rfl,rfl,rfl,Nat.le_refl _,fun _ _=>rfl⟩⟩
theorem slL_le (p:Po):(slL p).length≤2:=by unfold slL;cases hsl p.who<;>cases hsl p.what<;>decide
def paW:Po:=⟨⟨#[97]⟩,false,⟨0,eB,eU⟩,⟨0,eB,eU⟩,⟨5,eB,eU⟩,[]⟩
theorem paW_po (w:World):PoA w paW none 0:=by
 have hu:UOk eU:=⟨Nat.zero_le _,Nat.zero_le _⟩
 have hs:∀op,ScoOk ⟨op,eB,eU⟩:=fun op=>⟨Nat.zero_le _,hu⟩
 exact⟨by unfold maxLen;show 1≤_;omega,hs _,hs _,hs _,.inl rfl,Nat.le_refl _,Nat.zero_le _⟩
def poN:Po:=⟨eB,false,⟨0,eB,eU⟩,⟨0,eB,eU⟩,⟨0,eB,eU⟩,[]⟩
theorem poN_po (w:World):PoA w poN none 0:=by
 have hu:UOk eU:=⟨Nat.zero_le _,Nat.zero_le _⟩
 have hs:∀op,ScoOk ⟨op,eB,eU⟩:=fun op=>⟨Nat.zero_le _,hu⟩
 exact⟨Nat.zero_le _,hs _,hs _,hs _,.inl rfl,Nat.le_refl _,Nat.zero_le _⟩
theorem linked_good {p:Po}{pc:Option Addr}{cc:Nat}{who what:Ui}{w:World}(h:PoA w p pc cc)(hu:UOk who)(hv:UOk what)(hl:lkf p who what=0):
 Calls Tryz.prog 9 #[poV p pc cc,uiV who,uiV what] w fun e w'=>e= .returned (.tuple #[poV (lkP p who what) pc cc,.int .i64 0])∧Below w.heap.size w w':=by
 refine(linked_any p pc cc who what w h hu hv).mono ?_
 rintro e w' ⟨h1,h2⟩
 unfold LdRet at h1
 rw[if_pos hl]at h1
 exact⟨h1,h2⟩
theorem linked_wrong {p:Po}{pc:Option Addr}{cc:Nat}{who what:Ui}{w:World}(h:PoA w p pc cc)(hu:UOk who)(hv:UOk what){n:Int}(hl:lkf p who what=n)(hn:n≠0):
 Calls Tryz.prog 9 #[poV p pc cc,uiV who,uiV what] w fun e w'=>e= .returned (.tuple #[poZ,.int .i64 n])∧Below w.heap.size w w':=by
 subst hl
 refine(linked_any p pc cc who what w h hu hv).mono ?_
 rintro e w' ⟨h1,h2⟩
 unfold LdRet at h1
 rw[if_neg hn]at h1
 exact⟨h1,h2⟩
end Go.Proofs.YthhijecpookfhaaGreatDoor
