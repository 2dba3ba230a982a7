import Derived.Test.YtgbljlabifpmgaaGreatDoorP20
set_option linter.unusedVariables false
set_option maxHeartbeats 12000000
namespace Go.Proofs.YtgbljlabifpmgaaGreatDoor
set_option maxRecDepth 100000
def wK:List Tk:=[mkT 5 [40] 0,mkT 2 [49] 1,mkT 5 [43] 3,mkT 2 [50] 5,mkT 5 [41] 6,mkT 5 [42] 8,mkT 2 [51] 10]
theorem read_wK:readL [40,49,32,43,32,50,41,32,42,32,51]= .ok wK:=by
 unfold readL
 rw[if_neg (by decide),wds_word (by decide) (x:=(5,[40],1)) rfl (by decide)]
 simp only[List.nil_append,List.drop_zero,Nat.sub_self,Nat.zero_add]
 rw[wds_word (by decide) (x:=(2,[49],1)) rfl (by simp)]
 simp only[Nat.sub_self,List.drop_zero]
 rw[wds_blank (by decide),wds_word (by decide) (x:=(5,[43],1)) rfl (by simp)]
 simp only[Nat.sub_self,List.drop_zero]
 rw[wds_blank (by decide),wds_word (by decide) (x:=(2,[50],1)) rfl (by simp)]
 simp only[Nat.sub_self,List.drop_zero]
 rw[wds_word (by decide) (x:=(5,[41],1)) rfl (by simp)]
 simp only[Nat.sub_self,List.drop_zero]
 rw[wds_blank (by decide),wds_word (by decide) (x:=(5,[42],1)) rfl (by simp)]
 simp only[Nat.sub_self,List.drop_zero]
 rw[wds_blank (by decide),wds_word (by decide) (x:=(2,[51],1)) rfl (by simp)]
 simp only[Nat.sub_self,List.drop_zero]
 rw[wds_nil]
 rfl
def wM:List Tk:=[mkT 5 [45] 0,mkT 5 [40] 1,mkT 2 [53] 2,mkT 5 [41] 3]
theorem read_wM:readL [45,40,53,41]= .ok wM:=by
 unfold readL
 rw[if_neg (by decide),wds_word (by decide) (x:=(5,[45],1)) rfl (by decide)]
 simp only[List.nil_append,List.drop_zero,Nat.sub_self,Nat.zero_add]
 rw[wds_word (by decide) (x:=(5,[40],1)) rfl (by simp)]
 simp only[Nat.sub_self,List.drop_zero]
 rw[wds_word (by decide) (x:=(2,[53],1)) rfl (by simp)]
 simp only[Nat.sub_self,List.drop_zero]
 rw[wds_word (by decide) (x:=(5,[41],1)) rfl (by simp)]
 simp only[Nat.sub_self,List.drop_zero]
 rw[wds_nil]
 rfl
def fK:List Nd:=[opN 19,opN 17,⟨2,1,⟨#[]⟩,⟨#[]⟩⟩,⟨2,2,⟨#[]⟩,⟨#[]⟩⟩,⟨2,3,⟨#[]⟩,⟨#[]⟩⟩]
def fM:List Nd:=[opN 10,⟨2,5,⟨#[]⟩,⟨#[]⟩⟩]
theorem wrd_fK:wrd fK=wK.map at0:=by
 have e:wrd fK=[sgW [40],numW 1,sgW [43],numW 2,sgW [41],sgW [42],numW 3]:=by kernel_rfl
 rw[e]
 unfold numW
 rw[decL_small (by decide),decL_small (by decide),decL_small (by decide)]
 rfl
theorem wrd_fM:wrd fM=wM.map at0:=by
 have e:wrd fM=[sgW [45],sgW [40],numW 5,sgW [41]]:=by kernel_rfl
 rw[e]
 unfold numW
 rw[decL_small (by decide)]
 rfl
theorem xfault_fK:xfault fK=0:=by kernel_rfl
theorem xfault_fM:xfault fM=0:=by kernel_rfl
end Go.Proofs.YtgbljlabifpmgaaGreatDoor
