import Derived.Test.YtjkepjbfgeldnaaGreatDoorCards
import Derived.Test.YtjkepjbfgeldnaaGreatDoorTie
import Derived.Test.YtjkepjbfgeldnaaGreatDoorB16
import Derived.ProofKit
import Derived.OpenShut
import Derived.ShutString
import Derived.ChangeOld
import Derived.Deep.DeepHandedRow
import Derived.SizedLaws
import Derived.LaidLaws
import Derived.LaidHandle
import Derived.MakeChecks
import Derived.Stop.LaidErr
import Derived.Lib.LaidTab
set_option linter.unusedVariables false
set_option maxHeartbeats 12000000
namespace Go.Proofs.YtjkepjbfgeldnaaGreatDoor
open Go.ChangeShapes Go.WideShapes Go.ChangeAt Go.RowKit
set_option maxRecDepth 100000
theorem Tryz.own:ownKnob Tryz.prog.godebug=none:=by kernel_rfl
theorem Tryz.gER:Tryz.prog.globalNamed "strconv.ErrRange" =some 8:=by kernel_rfl
theorem Tryz.gERType:(Tryz.prog.globals[8]?).map (·.type)=some 30:=by kernel_rfl
theorem Tryz.cellsES:Tryz.prog.cellsOf 271=1:=by kernel_rfl
theorem Tryz.cellsStr:Tryz.prog.cellsOf 9=1:=by kernel_rfl
theorem Tryz.starES: "*" ++ "errors.errorString" = "*errors.errorString" :=by decide
theorem Tryz.rowES (u:TypeId)(h:Tryz.prog.typeName? 3 u=some "*errors.errorString"):u=269:=
 typeName_ptr_named (nm:= "errors.errorString") (by rw[Tryz.starES];kernel_rfl) (by kernel_rfl) (by decide) u (by rw[Tryz.starES];exact h)
def listed7:List (String×DataW Unit):=[("math/bits.deBruijn32tab", Rows.laid_math_bits_deBruijn32tab),("math/bits.deBruijn64tab", Rows.laid_math_bits_deBruijn64tab),("internal/strconv.uint64pow10", Rows.laid_internal_strconv_uint64pow10),("unicode/utf8.acceptRanges", Rows.laid_unicode_utf8_acceptRanges),("strconv.ErrRange", Rows.laid_strconv_ErrRange),("strconv.ErrSyntax", Rows.laid_strconv_ErrSyntax),("unicode/utf8.first", Rows.laid_unicode_utf8_first)]
theorem errIn_of_list {W:World}(h:laidMet Tryz.prog listed7 W):ErrIn W:=by
 obtain⟨a0,s0,hv0,-,-,-⟩:=laid_sentinel h.tail.tail.tail.tail Tryz.gER Tryz.gERType Tryz.underlying30 Tryz.rowES Tryz.underlying269 Tryz.underlying271 rfl rfl Tryz.underlying9 Tryz.cellsES Tryz.cellsStr
 exact⟨_,by simpa using World.var?_cell Tryz.gER hv0 0,.inr ⟨_,_,rfl⟩⟩
theorem errIn_of_laid7 {W:World}(h:laidMetH Tryz.prog listed7 W):ErrIn W:=by
 rw[MakeChecks.laidMetH_plain _ _ _ (by kernel_rfl)]at h
 exact errIn_of_list h
def leafV:DataW Unit→Value
 | .lit (.int k z)=>.int k z
 | _=>.bool false
def rowV:DataW Unit→List Value
 | .agg l=>l.map leafV
 | d=>[leafV d]
def flatV:DataW Unit→List Value
 | .agg l=>l.flatMap rowV
 | d=>[leafV d]
def layCells (w:World)(g:Nat)(cs:List Value):World:=
 { w with heap:=w.heap.modify g fun
     | .cells _ t frozen=>.cells cs.toArray t frozen
     | o=>o }
def rngS:ByteArray:=⟨#[118,97,108,117,101,32,111,117,116,32,111,102,32,114,97,110,103,101]⟩
def synS:ByteArray:=⟨#[105,110,118,97,108,105,100,32,115,121,110,116,97,120]⟩
def layTwo (w:World):World:=
 layCells (layCells { w with heap:=(w.heap.push (.cells #[.string rngS] 271)).push (.cells #[.string synS] 271) }
  8 [.iface 269 (.pointer (some ⟨w.heap.size,0,none⟩))]) 7 [.iface 269 (.pointer (some ⟨w.heap.size+1,0,none⟩))]
def layAll7 (w:World):World:=
 layCells (layCells (layCells (layCells (layCells (layTwo w) 2 (flatV Rows.laid_unicode_utf8_first)) 3 (flatV Rows.laid_unicode_utf8_acceptRanges))
  4 (flatV Rows.laid_internal_strconv_uint64pow10)) 6 (flatV Rows.laid_math_bits_deBruijn64tab)) 5 (flatV Rows.laid_math_bits_deBruijn32tab)
noncomputable def low:Nat:=(World.holding Tryz.prog default ⟨#[], #[],[]⟩).heap.size
theorem laid_run7 (os:Os)(args:Array Value):laidMet Tryz.prog listed7 ((layAll7 (World.holding Tryz.prog os ⟨#[], #[],[]⟩)).forCall (fun _ _=>0) ⟨#[],args,[]⟩).memory:=
 laidMet_of_run (ps:=MemPlace.row ⟨5,0,none⟩ 32++[]++(MemPlace.row ⟨6,0,none⟩ 64++[]++(MemPlace.row ⟨4,0,none⟩ 20++[]++(MemPlace.row ⟨3,0,none⟩ 32++[]++
  ([.cell 8 0,.cell low 0]++([.cell 7 0,.cell (low+1) 0]++(MemPlace.row ⟨2,0,none⟩ 256++[]++[]))))))) 8 (by kernel_rfl) (by kernel_rfl) (by kernel_rfl)
theorem laid_met7 (os:Os)(args:Array Value):laidMetH Tryz.prog listed7 ((layAll7 (World.holding Tryz.prog os ⟨#[], #[],[]⟩)).forCall (fun _ _=>0) ⟨#[],args,[]⟩).memory:=by
 rw[MakeChecks.laidMetH_plain _ _ _ (by kernel_rfl)]
 exact laid_run7 os args
end Go.Proofs.YtjkepjbfgeldnaaGreatDoor
