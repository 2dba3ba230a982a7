import Derived.Test.YtlnhaajjoplafaaGreatDoorT12
import Derived.Test.YtlnhaajjoplafaaGreatDoorT27
import Derived.Deep.RegionHeld
set_option linter.unusedVariables false
set_option maxHeartbeats 12000000
namespace Go.Proofs.YtlnhaajjoplafaaGreatDoor
open Go.RowKit
set_option linter.unusedSimpArgs false
set_option maxRecDepth 100000
theorem lk_cells15 {w:World}{T:Nat}{x0 x1 x2 x3 x4 x5 x6 x7 x8 x9 x10 x11 x12 x13 x14:Value}{ty:TypeId}(h:Blk w T #[x0,x1,x2,x3,x4,x5,x6,x7,x8,x9,x10,x11,x12,x13,x14] ty)(v0 v1 v2 v3 v4 v5 v6 v7 v8 v9 v10 v11 v12 v13 v14:Value):
 Blk ((((((((((((((((w).setCell ⟨T,0,none⟩ (v0)).setCell ⟨T,1,none⟩ (v1)).setCell ⟨T,2,none⟩ (v2)).setCell ⟨T,3,none⟩ (v3)).setCell ⟨T,4,none⟩ (v4)).setCell ⟨T,5,none⟩ (v5)).setCell ⟨T,6,none⟩ (v6)).setCell ⟨T,7,none⟩ (v7)).setCell ⟨T,8,none⟩ (v8)).setCell ⟨T,9,none⟩ (v9)).setCell ⟨T,10,none⟩ (v10)).setCell ⟨T,11,none⟩ (v11)).setCell ⟨T,12,none⟩ (v12)).setCell ⟨T,13,none⟩ (v13)).setCell ⟨T,14,none⟩ (v14)) T #[v0,v1,v2,v3,v4,v5,v6,v7,v8,v9,v10,v11,v12,v13,v14] ty:=by
 have h0:Blk ((w).setCell ⟨T,0,none⟩ (v0)) T #[v0,x1,x2,x3,x4,x5,x6,x7,x8,x9,x10,x11,x12,x13,x14] ty:=(h.set rfl).1
 have h1:Blk (((w).setCell ⟨T,0,none⟩ (v0)).setCell ⟨T,1,none⟩ (v1)) T #[v0,v1,x2,x3,x4,x5,x6,x7,x8,x9,x10,x11,x12,x13,x14] ty:=(h0.set rfl).1
 have h2:Blk ((((w).setCell ⟨T,0,none⟩ (v0)).setCell ⟨T,1,none⟩ (v1)).setCell ⟨T,2,none⟩ (v2)) T #[v0,v1,v2,x3,x4,x5,x6,x7,x8,x9,x10,x11,x12,x13,x14] ty:=(h1.set rfl).1
 have h3:Blk (((((w).setCell ⟨T,0,none⟩ (v0)).setCell ⟨T,1,none⟩ (v1)).setCell ⟨T,2,none⟩ (v2)).setCell ⟨T,3,none⟩ (v3)) T #[v0,v1,v2,v3,x4,x5,x6,x7,x8,x9,x10,x11,x12,x13,x14] ty:=(h2.set rfl).1
 have h4:Blk ((((((w).setCell ⟨T,0,none⟩ (v0)).setCell ⟨T,1,none⟩ (v1)).setCell ⟨T,2,none⟩ (v2)).setCell ⟨T,3,none⟩ (v3)).setCell ⟨T,4,none⟩ (v4)) T #[v0,v1,v2,v3,v4,x5,x6,x7,x8,x9,x10,x11,x12,x13,x14] ty:=(h3.set rfl).1
 have h5:Blk (((((((w).setCell ⟨T,0,none⟩ (v0)).setCell ⟨T,1,none⟩ (v1)).setCell ⟨T,2,none⟩ (v2)).setCell ⟨T,3,none⟩ (v3)).setCell ⟨T,4,none⟩ (v4)).setCell ⟨T,5,none⟩ (v5)) T #[v0,v1,v2,v3,v4,v5,x6,x7,x8,x9,x10,x11,x12,x13,x14] ty:=(h4.set rfl).1
 have h6:Blk ((((((((w).setCell ⟨T,0,none⟩ (v0)).setCell ⟨T,1,none⟩ (v1)).setCell ⟨T,2,none⟩ (v2)).setCell ⟨T,3,none⟩ (v3)).setCell ⟨T,4,none⟩ (v4)).setCell ⟨T,5,none⟩ (v5)).setCell ⟨T,6,none⟩ (v6)) T #[v0,v1,v2,v3,v4,v5,v6,x7,x8,x9,x10,x11,x12,x13,x14] ty:=(h5.set rfl).1
 have h7:Blk (((((((((w).setCell ⟨T,0,none⟩ (v0)).setCell ⟨T,1,none⟩ (v1)).setCell ⟨T,2,none⟩ (v2)).setCell ⟨T,3,none⟩ (v3)).setCell ⟨T,4,none⟩ (v4)).setCell ⟨T,5,none⟩ (v5)).setCell ⟨T,6,none⟩ (v6)).setCell ⟨T,7,none⟩ (v7)) T #[v0,v1,v2,v3,v4,v5,v6,v7,x8,x9,x10,x11,x12,x13,x14] ty:=(h6.set rfl).1
 have h8:Blk ((((((((((w).setCell ⟨T,0,none⟩ (v0)).setCell ⟨T,1,none⟩ (v1)).setCell ⟨T,2,none⟩ (v2)).setCell ⟨T,3,none⟩ (v3)).setCell ⟨T,4,none⟩ (v4)).setCell ⟨T,5,none⟩ (v5)).setCell ⟨T,6,none⟩ (v6)).setCell ⟨T,7,none⟩ (v7)).setCell ⟨T,8,none⟩ (v8)) T #[v0,v1,v2,v3,v4,v5,v6,v7,v8,x9,x10,x11,x12,x13,x14] ty:=(h7.set rfl).1
 have h9:Blk (((((((((((w).setCell ⟨T,0,none⟩ (v0)).setCell ⟨T,1,none⟩ (v1)).setCell ⟨T,2,none⟩ (v2)).setCell ⟨T,3,none⟩ (v3)).setCell ⟨T,4,none⟩ (v4)).setCell ⟨T,5,none⟩ (v5)).setCell ⟨T,6,none⟩ (v6)).setCell ⟨T,7,none⟩ (v7)).setCell ⟨T,8,none⟩ (v8)).setCell ⟨T,9,none⟩ (v9)) T #[v0,v1,v2,v3,v4,v5,v6,v7,v8,v9,x10,x11,x12,x13,x14] ty:=(h8.set rfl).1
 have h10:Blk ((((((((((((w).setCell ⟨T,0,none⟩ (v0)).setCell ⟨T,1,none⟩ (v1)).setCell ⟨T,2,none⟩ (v2)).setCell ⟨T,3,none⟩ (v3)).setCell ⟨T,4,none⟩ (v4)).setCell ⟨T,5,none⟩ (v5)).setCell ⟨T,6,none⟩ (v6)).setCell ⟨T,7,none⟩ (v7)).setCell ⟨T,8,none⟩ (v8)).setCell ⟨T,9,none⟩ (v9)).setCell ⟨T,10,none⟩ (v10)) T #[v0,v1,v2,v3,v4,v5,v6,v7,v8,v9,v10,x11,x12,x13,x14] ty:=(h9.set rfl).1
 have h11:Blk (((((((((((((w).setCell ⟨T,0,none⟩ (v0)).setCell ⟨T,1,none⟩ (v1)).setCell ⟨T,2,none⟩ (v2)).setCell ⟨T,3,none⟩ (v3)).setCell ⟨T,4,none⟩ (v4)).setCell ⟨T,5,none⟩ (v5)).setCell ⟨T,6,none⟩ (v6)).setCell ⟨T,7,none⟩ (v7)).setCell ⟨T,8,none⟩ (v8)).setCell ⟨T,9,none⟩ (v9)).setCell ⟨T,10,none⟩ (v10)).setCell ⟨T,11,none⟩ (v11)) T #[v0,v1,v2,v3,v4,v5,v6,v7,v8,v9,v10,v11,x12,x13,x14] ty:=(h10.set rfl).1
 have h12:Blk ((((((((((((((w).setCell ⟨T,0,none⟩ (v0)).setCell ⟨T,1,none⟩ (v1)).setCell ⟨T,2,none⟩ (v2)).setCell ⟨T,3,none⟩ (v3)).setCell ⟨T,4,none⟩ (v4)).setCell ⟨T,5,none⟩ (v5)).setCell ⟨T,6,none⟩ (v6)).setCell ⟨T,7,none⟩ (v7)).setCell ⟨T,8,none⟩ (v8)).setCell ⟨T,9,none⟩ (v9)).setCell ⟨T,10,none⟩ (v10)).setCell ⟨T,11,none⟩ (v11)).setCell ⟨T,12,none⟩ (v12)) T #[v0,v1,v2,v3,v4,v5,v6,v7,v8,v9,v10,v11,v12,x13,x14] ty:=(h11.set rfl).1
 have h13:Blk (((((((((((((((w).setCell ⟨T,0,none⟩ (v0)).setCell ⟨T,1,none⟩ (v1)).setCell ⟨T,2,none⟩ (v2)).setCell ⟨T,3,none⟩ (v3)).setCell ⟨T,4,none⟩ (v4)).setCell ⟨T,5,none⟩ (v5)).setCell ⟨T,6,none⟩ (v6)).setCell ⟨T,7,none⟩ (v7)).setCell ⟨T,8,none⟩ (v8)).setCell ⟨T,9,none⟩ (v9)).setCell ⟨T,10,none⟩ (v10)).setCell ⟨T,11,none⟩ (v11)).setCell ⟨T,12,none⟩ (v12)).setCell ⟨T,13,none⟩ (v13)) T #[v0,v1,v2,v3,v4,v5,v6,v7,v8,v9,v10,v11,v12,v13,x14] ty:=(h12.set rfl).1
 have h14:Blk ((((((((((((((((w).setCell ⟨T,0,none⟩ (v0)).setCell ⟨T,1,none⟩ (v1)).setCell ⟨T,2,none⟩ (v2)).setCell ⟨T,3,none⟩ (v3)).setCell ⟨T,4,none⟩ (v4)).setCell ⟨T,5,none⟩ (v5)).setCell ⟨T,6,none⟩ (v6)).setCell ⟨T,7,none⟩ (v7)).setCell ⟨T,8,none⟩ (v8)).setCell ⟨T,9,none⟩ (v9)).setCell ⟨T,10,none⟩ (v10)).setCell ⟨T,11,none⟩ (v11)).setCell ⟨T,12,none⟩ (v12)).setCell ⟨T,13,none⟩ (v13)).setCell ⟨T,14,none⟩ (v14)) T #[v0,v1,v2,v3,v4,v5,v6,v7,v8,v9,v10,v11,v12,v13,v14] ty:=(h13.set rfl).1
 exact h14
theorem lk_keep15 (w:World)(T:Nat)(v0 v1 v2 v3 v4 v5 v6 v7 v8 v9 v10 v11 v12 v13 v14:Value):Keep (fun x=>x=T) w ((((((((((((((((w).setCell ⟨T,0,none⟩ (v0)).setCell ⟨T,1,none⟩ (v1)).setCell ⟨T,2,none⟩ (v2)).setCell ⟨T,3,none⟩ (v3)).setCell ⟨T,4,none⟩ (v4)).setCell ⟨T,5,none⟩ (v5)).setCell ⟨T,6,none⟩ (v6)).setCell ⟨T,7,none⟩ (v7)).setCell ⟨T,8,none⟩ (v8)).setCell ⟨T,9,none⟩ (v9)).setCell ⟨T,10,none⟩ (v10)).setCell ⟨T,11,none⟩ (v11)).setCell ⟨T,12,none⟩ (v12)).setCell ⟨T,13,none⟩ (v13)).setCell ⟨T,14,none⟩ (v14)):=by
 exact(Keep.trans (Keep.trans (Keep.trans (Keep.trans (Keep.trans (Keep.trans (Keep.trans (Keep.trans (Keep.trans (Keep.trans (Keep.trans (Keep.trans (Keep.trans (Keep.trans (keep_set w T 0 v0) (keep_set _ T 1 v1) (fun _ e=>.inl e)) (keep_set _ T 2 v2) (fun _ e=>.inl e)) (keep_set _ T 3 v3) (fun _ e=>.inl e)) (keep_set _ T 4 v4) (fun _ e=>.inl e)) (keep_set _ T 5 v5) (fun _ e=>.inl e)) (keep_set _ T 6 v6) (fun _ e=>.inl e)) (keep_set _ T 7 v7) (fun _ e=>.inl e)) (keep_set _ T 8 v8) (fun _ e=>.inl e)) (keep_set _ T 9 v9) (fun _ e=>.inl e)) (keep_set _ T 10 v10) (fun _ e=>.inl e)) (keep_set _ T 11 v11) (fun _ e=>.inl e)) (keep_set _ T 12 v12) (fun _ e=>.inl e)) (keep_set _ T 13 v13) (fun _ e=>.inl e)) (keep_set _ T 14 v14) (fun _ e=>.inl e))
theorem lk_cells9 {w:World}{T:Nat}{p:Po}{pc:Option Addr}{cc:Nat}{ty:TypeId}(h:Blk w T #[.string p.nm,.bool p.fb,.int .i64 p.who.op,.string p.who.ty,.string p.who.u.t,.string p.who.u.i,.int .i64 p.act.op,.string p.act.ty,.string p.act.u.t,.string p.act.u.i,.int .i64 p.what.op,.string p.what.ty,.string p.what.u.t,.string p.what.u.i,.slice pc p.cs.length cc] ty)(S U:Sco)(q:Option Addr)(c:Nat):
 Blk ((((((((((w).setCell ⟨T,2,none⟩ (.int .i64 S.op)).setCell ⟨T,3,none⟩ (.string S.ty)).setCell ⟨T,4,none⟩ (.string S.u.t)).setCell ⟨T,5,none⟩ (.string S.u.i)).setCell ⟨T,10,none⟩ (.int .i64 U.op)).setCell ⟨T,11,none⟩ (.string U.ty)).setCell ⟨T,12,none⟩ (.string U.u.t)).setCell ⟨T,13,none⟩ (.string U.u.i)).setCell ⟨T,14,none⟩ (.slice q p.cs.length c)) T #[.string p.nm,.bool p.fb,.int .i64 S.op,.string S.ty,.string S.u.t,.string S.u.i,.int .i64 p.act.op,.string p.act.ty,.string p.act.u.t,.string p.act.u.i,.int .i64 U.op,.string U.ty,.string U.u.t,.string U.u.i,.slice q p.cs.length c] ty:=by
 have h0:Blk ((w).setCell ⟨T,2,none⟩ (.int .i64 S.op)) T #[.string p.nm,.bool p.fb,.int .i64 S.op,.string p.who.ty,.string p.who.u.t,.string p.who.u.i,.int .i64 p.act.op,.string p.act.ty,.string p.act.u.t,.string p.act.u.i,.int .i64 p.what.op,.string p.what.ty,.string p.what.u.t,.string p.what.u.i,.slice pc p.cs.length cc] ty:=(h.set rfl).1
 have h1:Blk (((w).setCell ⟨T,2,none⟩ (.int .i64 S.op)).setCell ⟨T,3,none⟩ (.string S.ty)) T #[.string p.nm,.bool p.fb,.int .i64 S.op,.string S.ty,.string p.who.u.t,.string p.who.u.i,.int .i64 p.act.op,.string p.act.ty,.string p.act.u.t,.string p.act.u.i,.int .i64 p.what.op,.string p.what.ty,.string p.what.u.t,.string p.what.u.i,.slice pc p.cs.length cc] ty:=(h0.set rfl).1
 have h2:Blk ((((w).setCell ⟨T,2,none⟩ (.int .i64 S.op)).setCell ⟨T,3,none⟩ (.string S.ty)).setCell ⟨T,4,none⟩ (.string S.u.t)) T #[.string p.nm,.bool p.fb,.int .i64 S.op,.string S.ty,.string S.u.t,.string p.who.u.i,.int .i64 p.act.op,.string p.act.ty,.string p.act.u.t,.string p.act.u.i,.int .i64 p.what.op,.string p.what.ty,.string p.what.u.t,.string p.what.u.i,.slice pc p.cs.length cc] ty:=(h1.set rfl).1
 have h3:Blk (((((w).setCell ⟨T,2,none⟩ (.int .i64 S.op)).setCell ⟨T,3,none⟩ (.string S.ty)).setCell ⟨T,4,none⟩ (.string S.u.t)).setCell ⟨T,5,none⟩ (.string S.u.i)) T #[.string p.nm,.bool p.fb,.int .i64 S.op,.string S.ty,.string S.u.t,.string S.u.i,.int .i64 p.act.op,.string p.act.ty,.string p.act.u.t,.string p.act.u.i,.int .i64 p.what.op,.string p.what.ty,.string p.what.u.t,.string p.what.u.i,.slice pc p.cs.length cc] ty:=(h2.set rfl).1
 have h4:Blk ((((((w).setCell ⟨T,2,none⟩ (.int .i64 S.op)).setCell ⟨T,3,none⟩ (.string S.ty)).setCell ⟨T,4,none⟩ (.string S.u.t)).setCell ⟨T,5,none⟩ (.string S.u.i)).setCell ⟨T,10,none⟩ (.int .i64 U.op)) T #[.string p.nm,.bool p.fb,.int .i64 S.op,.string S.ty,.string S.u.t,.string S.u.i,.int .i64 p.act.op,.string p.act.ty,.string p.act.u.t,.string p.act.u.i,.int .i64 U.op,.string p.what.ty,.string p.what.u.t,.string p.what.u.i,.slice pc p.cs.length cc] ty:=(h3.set rfl).1
 have h5:Blk (((((((w).setCell ⟨T,2,none⟩ (.int .i64 S.op)).setCell ⟨T,3,none⟩ (.string S.ty)).setCell ⟨T,4,none⟩ (.string S.u.t)).setCell ⟨T,5,none⟩ (.string S.u.i)).setCell ⟨T,10,none⟩ (.int .i64 U.op)).setCell ⟨T,11,none⟩ (.string U.ty)) T #[.string p.nm,.bool p.fb,.int .i64 S.op,.string S.ty,.string S.u.t,.string S.u.i,.int .i64 p.act.op,.string p.act.ty,.string p.act.u.t,.string p.act.u.i,.int .i64 U.op,.string U.ty,.string p.what.u.t,.string p.what.u.i,.slice pc p.cs.length cc] ty:=(h4.set rfl).1
 have h6:Blk ((((((((w).setCell ⟨T,2,none⟩ (.int .i64 S.op)).setCell ⟨T,3,none⟩ (.string S.ty)).setCell ⟨T,4,none⟩ (.string S.u.t)).setCell ⟨T,5,none⟩ (.string S.u.i)).setCell ⟨T,10,none⟩ (.int .i64 U.op)).setCell ⟨T,11,none⟩ (.string U.ty)).setCell ⟨T,12,none⟩ (.string U.u.t)) T #[.string p.nm,.bool p.fb,.int .i64 S.op,.string S.ty,.string S.u.t,.string S.u.i,.int .i64 p.act.op,.string p.act.ty,.string p.act.u.t,.string p.act.u.i,.int .i64 U.op,.string U.ty,.string U.u.t,.string p.what.u.i,.slice pc p.cs.length cc] ty:=(h5.set rfl).1
 have h7:Blk (((((((((w).setCell ⟨T,2,none⟩ (.int .i64 S.op)).setCell ⟨T,3,none⟩ (.string S.ty)).setCell ⟨T,4,none⟩ (.string S.u.t)).setCell ⟨T,5,none⟩ (.string S.u.i)).setCell ⟨T,10,none⟩ (.int .i64 U.op)).setCell ⟨T,11,none⟩ (.string U.ty)).setCell ⟨T,12,none⟩ (.string U.u.t)).setCell ⟨T,13,none⟩ (.string U.u.i)) T #[.string p.nm,.bool p.fb,.int .i64 S.op,.string S.ty,.string S.u.t,.string S.u.i,.int .i64 p.act.op,.string p.act.ty,.string p.act.u.t,.string p.act.u.i,.int .i64 U.op,.string U.ty,.string U.u.t,.string U.u.i,.slice pc p.cs.length cc] ty:=(h6.set rfl).1
 have h8:Blk ((((((((((w).setCell ⟨T,2,none⟩ (.int .i64 S.op)).setCell ⟨T,3,none⟩ (.string S.ty)).setCell ⟨T,4,none⟩ (.string S.u.t)).setCell ⟨T,5,none⟩ (.string S.u.i)).setCell ⟨T,10,none⟩ (.int .i64 U.op)).setCell ⟨T,11,none⟩ (.string U.ty)).setCell ⟨T,12,none⟩ (.string U.u.t)).setCell ⟨T,13,none⟩ (.string U.u.i)).setCell ⟨T,14,none⟩ (.slice q p.cs.length c)) T #[.string p.nm,.bool p.fb,.int .i64 S.op,.string S.ty,.string S.u.t,.string S.u.i,.int .i64 p.act.op,.string p.act.ty,.string p.act.u.t,.string p.act.u.i,.int .i64 U.op,.string U.ty,.string U.u.t,.string U.u.i,.slice q p.cs.length c] ty:=(h7.set rfl).1
 exact h8
theorem lk_keep9 {w:World}{T:Nat}{p:Po}(S U:Sco)(q:Option Addr)(c:Nat):Keep (fun x=>x=T) w ((((((((((w).setCell ⟨T,2,none⟩ (.int .i64 S.op)).setCell ⟨T,3,none⟩ (.string S.ty)).setCell ⟨T,4,none⟩ (.string S.u.t)).setCell ⟨T,5,none⟩ (.string S.u.i)).setCell ⟨T,10,none⟩ (.int .i64 U.op)).setCell ⟨T,11,none⟩ (.string U.ty)).setCell ⟨T,12,none⟩ (.string U.u.t)).setCell ⟨T,13,none⟩ (.string U.u.i)).setCell ⟨T,14,none⟩ (.slice q p.cs.length c)):=by
 exact(Keep.trans (Keep.trans (Keep.trans (Keep.trans (Keep.trans (Keep.trans (Keep.trans (Keep.trans (keep_set w T 2 _) (keep_set _ T 3 _) (fun _ e=>.inl e)) (keep_set _ T 4 _) (fun _ e=>.inl e)) (keep_set _ T 5 _) (fun _ e=>.inl e)) (keep_set _ T 10 _) (fun _ e=>.inl e)) (keep_set _ T 11 _) (fun _ e=>.inl e)) (keep_set _ T 12 _) (fun _ e=>.inl e)) (keep_set _ T 13 _) (fun _ e=>.inl e)) (keep_set _ T 14 _) (fun _ e=>.inl e))
theorem cell_far (w:World){b a:Nat}(h:¬b=a)(o j:Nat)(v:Value):(w.setCell ⟨b,o,none⟩ v).cell? ⟨a,j,none⟩=w.cell? ⟨a,j,none⟩:=World.cell?_setCell_far w ⟨b,o,none⟩ ⟨a,j,none⟩ v h
theorem fil_sok {s:Sco}{u:Ui}(h:ScoOk s)(k:UOk u):ScoOk (fil s u):=by
 unfold fil
 split
 · exact⟨Nat.zero_le _,k⟩
 · split
   · exact⟨Nat.zero_le _,k⟩
   · exact h
def poZ:Value:=.agg #[.string ⟨#[]⟩,.bool false,.int .i64 0,.string ⟨#[]⟩,.string ⟨#[]⟩,.string ⟨#[]⟩,.int .i64 0,.string ⟨#[]⟩,.string ⟨#[]⟩,.string ⟨#[]⟩,.int .i64 0,.string ⟨#[]⟩,.string ⟨#[]⟩,.string ⟨#[]⟩,.slice none 0 0]
def LkRet (p:Po)(who what:Ui)(w':World)(e:Ending):Prop:=
 if lkf p who what=0 then ∃q c,e= .returned (.tuple #[poV (lkP p who what) q c,.nilIface])∧PoA w' (lkP p who what) q c∧CdLT w' q p.cs else e= .returned (.tuple #[poZ,eV (lkf p who what)])
section
variable (p:Po) (pc:Option Addr) (cc:Nat) (who what:Ui) (w:World) (h:PoA w p pc cc) (hu:UOk who) (hv:UOk what)
include h hu hv
theorem link_bad (hn:pof p≠0):
 Calls Tryz.prog 5 #[poV p pc cc,uiV who,uiV what] w fun e w'=>LkRet p who what w' e∧Below w.heap.size w w':=by
 obtain⟨V,hV⟩:∃V,V=(((w.alloc (.cells (poC p pc cc) 29)).alloc (.cells #[.string who.t,.string who.i] 24)).alloc (.cells #[.string what.t,.string what.i] 24)).alloc (.cells #[.string ⟨#[]⟩,.bool false,.int .i64 0,.string ⟨#[]⟩,.string ⟨#[]⟩,.string ⟨#[]⟩,.int .i64 0,.string ⟨#[]⟩,.string ⟨#[]⟩,.string ⟨#[]⟩,.int .i64 0,.string ⟨#[]⟩,.string ⟨#[]⟩,.string ⟨#[]⟩,.slice none 0 0] 29):=⟨_,rfl⟩
 have hbV:Below w.heap.size w V:=by rw[hV];exact kqx
 have HA:Hid (∀W,Below V.heap.size V W→Blk W w.heap.size (poC p pc cc) 29∧Blk W (w.heap.size+1) #[.string who.t,.string who.i] 24∧Blk W (w.heap.size+1+1) #[.string what.t,.string what.i] 24∧Blk W (w.heap.size+1+1+1) #[.string ⟨#[]⟩,.bool false,.int .i64 0,.string ⟨#[]⟩,.string ⟨#[]⟩,.string ⟨#[]⟩,.int .i64 0,.string ⟨#[]⟩,.string ⟨#[]⟩,.string ⟨#[]⟩,.int .i64 0,.string ⟨#[]⟩,.string ⟨#[]⟩,.string ⟨#[]⟩,.slice none 0 0] 29):=fun W hW=>by
  have h1:Blk V w.heap.size (poC p pc cc) 29:=by rw[hV];exact(((Blk.new w _ _ rfl).up kqx).up kqx).up kqx
  have h2:Blk V (w.heap.size+1) #[.string who.t,.string who.i] 24:=by rw[hV];refine((Blk.new (w.alloc _) _ _ ?_).up kqx).up kqx;simp
  have h3:Blk V (w.heap.size+1+1) #[.string what.t,.string what.i] 24:=by rw[hV];refine(Blk.new ((w.alloc _).alloc _) _ _ ?_).up kqx;simp
  have h4:Blk V (w.heap.size+1+1+1) #[.string ⟨#[]⟩,.bool false,.int .i64 0,.string ⟨#[]⟩,.string ⟨#[]⟩,.string ⟨#[]⟩,.int .i64 0,.string ⟨#[]⟩,.string ⟨#[]⟩,.string ⟨#[]⟩,.int .i64 0,.string ⟨#[]⟩,.string ⟨#[]⟩,.string ⟨#[]⟩,.slice none 0 0] 29:=by rw[hV];refine Blk.new (((w.alloc _).alloc _).alloc _) _ _ ?_;simp
  exact⟨h1.up hW,h2.up hW,h3.up hW,h4.up hW⟩
 have hltV:w.heap.size+1+1+1<V.heap.size:=(HA.out V (Below.refl _ _)).2.2.2.lt
 have HC:=fun W (hW:Below V.heap.size V W)=>pcheck_any p pc cc W ((h.up hbV).up hW)
 have HF1:=fun W=>filled_any p.who who W hu
 have HF2:=fun W=>filled_any p.what what W hv
 have HR:Hid (∀W,LkRet p who what W (.returned (.tuple #[poZ,.iface 70 (.int .i64 (pof p))]))):=fun W=>by
  have hl:lkf p who what=pof p:=by unfold lkf;rw[if_neg hn]
  show LkRet _ _ _ _ _
  unfold LkRet
  rw[hl,if_neg hn,eV_not hn]
 rw[eV_not hn]at HC
 generalize pof p=n at *
 clear hn h hu hv HF1 HF2
 unfold poC at hV
 unfold poV uiV at *
 try unfold scV at *
 go_enter Tryz.func5,Tryz.ntmps5
 go_wp2_with fail
 rw[←hV]
 clear hV
 refine(HC _ (Below.refl _ _)).mono ?_
 rintro _ w1 ⟨rfl,hb1⟩
 clear HC
 obtain⟨hB0,hB1,hB2,hB3⟩:=HA.out w1 hb1
 have HZ:Hid (Blk w1 (w.heap.size+1+1+1) #[.string ⟨#[]⟩,.bool false,.int .i64 0,.string ⟨#[]⟩,.string ⟨#[]⟩,.string ⟨#[]⟩,.int .i64 0,.string ⟨#[]⟩,.string ⟨#[]⟩,.string ⟨#[]⟩,.int .i64 0,.string ⟨#[]⟩,.string ⟨#[]⟩,.string ⟨#[]⟩,.slice none 0 0] 29):=hB3
 have y0:=hB3.cell 0
 have f0:=hB3.free 0
 have y1:=hB3.cell 1
 have f1:=hB3.free 1
 have y2:=hB3.cell 2
 have f2:=hB3.free 2
 have y3:=hB3.cell 3
 have f3:=hB3.free 3
 have y4:=hB3.cell 4
 have f4:=hB3.free 4
 have y5:=hB3.cell 5
 have f5:=hB3.free 5
 have y6:=hB3.cell 6
 have f6:=hB3.free 6
 have y7:=hB3.cell 7
 have f7:=hB3.free 7
 have y8:=hB3.cell 8
 have f8:=hB3.free 8
 have y9:=hB3.cell 9
 have f9:=hB3.free 9
 have y10:=hB3.cell 10
 have f10:=hB3.free 10
 have y11:=hB3.cell 11
 have f11:=hB3.free 11
 have y12:=hB3.cell 12
 have f12:=hB3.free 12
 have y13:=hB3.cell 13
 have f13:=hB3.free 13
 have y14:=hB3.cell 14
 have f14:=hB3.free 14
 simp only[List.getElem?_toArray,List.getElem?_cons_zero,List.getElem?_cons_succ]at y0 y1 y2 y3 y4 y5 y6 y7 y8 y9 y10 y11 y12 y13 y14
 clear HA hB0 hB1 hB2 hB3
 go_wp2
 obtain⟨Y,hY⟩:∃Y,Y=(((((((((((((((w1).setCell ⟨(w.heap.size+1+1+1),0,none⟩ (.string ⟨#[]⟩)).setCell ⟨(w.heap.size+1+1+1),1,none⟩ (.bool false)).setCell ⟨(w.heap.size+1+1+1),2,none⟩ (.int .i64 0)).setCell ⟨(w.heap.size+1+1+1),3,none⟩ (.string ⟨#[]⟩)).setCell ⟨(w.heap.size+1+1+1),4,none⟩ (.string ⟨#[]⟩)).setCell ⟨(w.heap.size+1+1+1),5,none⟩ (.string ⟨#[]⟩)).setCell ⟨(w.heap.size+1+1+1),6,none⟩ (.int .i64 0)).setCell ⟨(w.heap.size+1+1+1),7,none⟩ (.string ⟨#[]⟩)).setCell ⟨(w.heap.size+1+1+1),8,none⟩ (.string ⟨#[]⟩)).setCell ⟨(w.heap.size+1+1+1),9,none⟩ (.string ⟨#[]⟩)).setCell ⟨(w.heap.size+1+1+1),10,none⟩ (.int .i64 0)).setCell ⟨(w.heap.size+1+1+1),11,none⟩ (.string ⟨#[]⟩)).setCell ⟨(w.heap.size+1+1+1),12,none⟩ (.string ⟨#[]⟩)).setCell ⟨(w.heap.size+1+1+1),13,none⟩ (.string ⟨#[]⟩)).setCell ⟨(w.heap.size+1+1+1),14,none⟩ (.slice none 0 0):=⟨_,rfl⟩
 rw[←hY]
 obtain⟨hbY,hkY⟩:Blk Y (w.heap.size+1+1+1) #[.string ⟨#[]⟩,.bool false,.int .i64 0,.string ⟨#[]⟩,.string ⟨#[]⟩,.string ⟨#[]⟩,.int .i64 0,.string ⟨#[]⟩,.string ⟨#[]⟩,.string ⟨#[]⟩,.int .i64 0,.string ⟨#[]⟩,.string ⟨#[]⟩,.string ⟨#[]⟩,.slice none 0 0] 29∧Keep (fun x=>x=(w.heap.size+1+1+1)) w1 Y:=by rw[hY];exact⟨lk_cells15 HZ.out (.string ⟨#[]⟩) (.bool false) (.int .i64 0) (.string ⟨#[]⟩) (.string ⟨#[]⟩) (.string ⟨#[]⟩) (.int .i64 0) (.string ⟨#[]⟩) (.string ⟨#[]⟩) (.string ⟨#[]⟩) (.int .i64 0) (.string ⟨#[]⟩) (.string ⟨#[]⟩) (.string ⟨#[]⟩) (.slice none 0 0),lk_keep15 _ _ _ _ _ _ _ _ _ _ _ _ _ _ _ _ _⟩
 have HBY:Hid (Below w.heap.size w Y):=((kqt hbV hb1)).trans (hkY.below ((kqt hbV hb1)).size (fun a e=>by have h2:a=(w.heap.size+1+1+1):=e;omega))
 have HKY:Hid (Keep (fun x=>x=(w.heap.size+1+1+1)) w1 Y):=hkY
 clear hY hkY
 have z0:=hbY.cell 0
 have z1:=hbY.cell 1
 have z2:=hbY.cell 2
 have z3:=hbY.cell 3
 have z4:=hbY.cell 4
 have z5:=hbY.cell 5
 have z6:=hbY.cell 6
 have z7:=hbY.cell 7
 have z8:=hbY.cell 8
 have z9:=hbY.cell 9
 have z10:=hbY.cell 10
 have z11:=hbY.cell 11
 have z12:=hbY.cell 12
 have z13:=hbY.cell 13
 have z14:=hbY.cell 14
 simp only[List.getElem?_toArray,List.getElem?_cons_zero,List.getElem?_cons_succ]at z0 z1 z2 z3 z4 z5 z6 z7 z8 z9 z10 z11 z12 z13 z14
 refine bodyPost_ret (v:=.tuple #[.agg #[.string ⟨#[]⟩,.bool false,.int .i64 0,.string ⟨#[]⟩,.string ⟨#[]⟩,.string ⟨#[]⟩,.int .i64 0,.string ⟨#[]⟩,.string ⟨#[]⟩,.string ⟨#[]⟩,.int .i64 0,.string ⟨#[]⟩,.string ⟨#[]⟩,.string ⟨#[]⟩,.slice none 0 0],.iface 70 (.int .i64 n)]) (by simp[results,Tryz.results5,go_sem,z0,z1,z2,z3,z4,z5,z6,z7,z8,z9,z10,z11,z12,z13,z14]) rfl ⟨?_,HBY.out⟩
 exact HR.out _
theorem link_who (h0:pof p=0)(hn:fif p.who who≠0):
 Calls Tryz.prog 5 #[poV p pc cc,uiV who,uiV what] w fun e w'=>LkRet p who what w' e∧Below w.heap.size w w':=by
 obtain⟨V,hV⟩:∃V,V=(((w.alloc (.cells (poC p pc cc) 29)).alloc (.cells #[.string who.t,.string who.i] 24)).alloc (.cells #[.string what.t,.string what.i] 24)).alloc (.cells #[.string ⟨#[]⟩,.bool false,.int .i64 0,.string ⟨#[]⟩,.string ⟨#[]⟩,.string ⟨#[]⟩,.int .i64 0,.string ⟨#[]⟩,.string ⟨#[]⟩,.string ⟨#[]⟩,.int .i64 0,.string ⟨#[]⟩,.string ⟨#[]⟩,.string ⟨#[]⟩,.slice none 0 0] 29):=⟨_,rfl⟩
 have hbV:Below w.heap.size w V:=by rw[hV];exact kqx
 have HA:Hid (∀W,Below V.heap.size V W→Blk W w.heap.size (poC p pc cc) 29∧Blk W (w.heap.size+1) #[.string who.t,.string who.i] 24∧Blk W (w.heap.size+1+1) #[.string what.t,.string what.i] 24∧Blk W (w.heap.size+1+1+1) #[.string ⟨#[]⟩,.bool false,.int .i64 0,.string ⟨#[]⟩,.string ⟨#[]⟩,.string ⟨#[]⟩,.int .i64 0,.string ⟨#[]⟩,.string ⟨#[]⟩,.string ⟨#[]⟩,.int .i64 0,.string ⟨#[]⟩,.string ⟨#[]⟩,.string ⟨#[]⟩,.slice none 0 0] 29):=fun W hW=>by
  have h1:Blk V w.heap.size (poC p pc cc) 29:=by rw[hV];exact(((Blk.new w _ _ rfl).up kqx).up kqx).up kqx
  have h2:Blk V (w.heap.size+1) #[.string who.t,.string who.i] 24:=by rw[hV];refine((Blk.new (w.alloc _) _ _ ?_).up kqx).up kqx;simp
  have h3:Blk V (w.heap.size+1+1) #[.string what.t,.string what.i] 24:=by rw[hV];refine(Blk.new ((w.alloc _).alloc _) _ _ ?_).up kqx;simp
  have h4:Blk V (w.heap.size+1+1+1) #[.string ⟨#[]⟩,.bool false,.int .i64 0,.string ⟨#[]⟩,.string ⟨#[]⟩,.string ⟨#[]⟩,.int .i64 0,.string ⟨#[]⟩,.string ⟨#[]⟩,.string ⟨#[]⟩,.int .i64 0,.string ⟨#[]⟩,.string ⟨#[]⟩,.string ⟨#[]⟩,.slice none 0 0] 29:=by rw[hV];refine Blk.new (((w.alloc _).alloc _).alloc _) _ _ ?_;simp
  exact⟨h1.up hW,h2.up hW,h3.up hW,h4.up hW⟩
 have hltV:w.heap.size+1+1+1<V.heap.size:=(HA.out V (Below.refl _ _)).2.2.2.lt
 have HC:=fun W (hW:Below V.heap.size V W)=>pcheck_any p pc cc W ((h.up hbV).up hW)
 have HF1:=fun W=>filled_any p.who who W hu
 have HF2:=fun W=>filled_any p.what what W hv
 have HR:Hid (∀W,LkRet p who what W (.returned (.tuple #[poZ,.iface 70 (.int .i64 (fif p.who who))]))):=fun W=>by
  have hl:lkf p who what=fif p.who who:=by unfold lkf;rw[if_pos h0,if_neg hn]
  show LkRet _ _ _ _ _
  unfold LkRet
  rw[hl,if_neg hn,eV_not hn]
 rw[eV_nil h0]at HC
 have HF1:∀W,Calls Tryz.prog 12 #[scV p.who,uiV who] W fun e w'=>e= .returned (.tuple #[scV ⟨0,eB,eU⟩,.iface 70 (.int .i64 (fif p.who who))])∧Below W.heap.size W w':=fun W=>(HF1 W).mono (by
  rintro e w' ⟨k1,k2⟩
  unfold FilRet at k1
  rw[if_neg hn,eV_not hn]at k1
  exact⟨k1,k2⟩)
 generalize fif p.who who=n at *
 unfold eB eU eB at HF1
 clear hn h0 h hu hv HF2
 unfold poC at hV
 unfold poV uiV at *
 try unfold scV at *
 go_enter Tryz.func5,Tryz.ntmps5
 go_wp2_with fail
 rw[←hV]
 clear hV
 refine(HC _ (Below.refl _ _)).mono ?_
 rintro _ w1 ⟨rfl,hb1⟩
 clear HC
 obtain⟨hB0,hB1,hB2,hB3⟩:=HA.out w1 hb1
 obtain⟨x0,x1,x2,x3,x4,x5,x6,x7,x8,x9,x10,x11,x12,x13,x14⟩:=po_cells hB0
 have u0:=hB1.cell 0
 have u1:=hB1.cell 1
 simp only[List.getElem?_toArray,List.getElem?_cons_zero,List.getElem?_cons_succ]at u0 u1
 clear hB0 hB1 hB2 hB3
 go_wp2_with fail
 refine(HF1 _).mono ?_
 rintro _ w2 ⟨rfl,hb2'⟩
 have hb2:Below V.heap.size V w2:=kqt hb1 hb2'
 clear HF1 hb2' u0 u1 x0 x1 x2 x3 x4 x5 x6 x7 x8 x9 x10 x11 x12 x13 x14
 obtain⟨hB0,hB1,hB2,hB3⟩:=HA.out w2 hb2
 have HZ:Hid (Blk w2 (w.heap.size+1+1+1) #[.string ⟨#[]⟩,.bool false,.int .i64 0,.string ⟨#[]⟩,.string ⟨#[]⟩,.string ⟨#[]⟩,.int .i64 0,.string ⟨#[]⟩,.string ⟨#[]⟩,.string ⟨#[]⟩,.int .i64 0,.string ⟨#[]⟩,.string ⟨#[]⟩,.string ⟨#[]⟩,.slice none 0 0] 29):=hB3
 have hlt:w.heap.size+1+1+1<w2.heap.size:=hB3.lt
 have y0:=hB3.cell 0
 have f0:=hB3.free 0
 have y1:=hB3.cell 1
 have f1:=hB3.free 1
 have y2:=hB3.cell 2
 have f2:=hB3.free 2
 have y3:=hB3.cell 3
 have f3:=hB3.free 3
 have y4:=hB3.cell 4
 have f4:=hB3.free 4
 have y5:=hB3.cell 5
 have f5:=hB3.free 5
 have y6:=hB3.cell 6
 have f6:=hB3.free 6
 have y7:=hB3.cell 7
 have f7:=hB3.free 7
 have y8:=hB3.cell 8
 have f8:=hB3.free 8
 have y9:=hB3.cell 9
 have f9:=hB3.free 9
 have y10:=hB3.cell 10
 have f10:=hB3.free 10
 have y11:=hB3.cell 11
 have f11:=hB3.free 11
 have y12:=hB3.cell 12
 have f12:=hB3.free 12
 have y13:=hB3.cell 13
 have f13:=hB3.free 13
 have y14:=hB3.cell 14
 have f14:=hB3.free 14
 simp only[List.getElem?_toArray,List.getElem?_cons_zero,List.getElem?_cons_succ]at y0 y1 y2 y3 y4 y5 y6 y7 y8 y9 y10 y11 y12 y13 y14
 clear HA hB0 hB1 hB2 hB3
 go_wp2
 obtain⟨X,hX⟩:∃X,X=(((((((((((((((w2).setCell ⟨(w.heap.size+1+1+1),0,none⟩ (.string ⟨#[]⟩)).setCell ⟨(w.heap.size+1+1+1),1,none⟩ (.bool false)).setCell ⟨(w.heap.size+1+1+1),2,none⟩ (.int .i64 0)).setCell ⟨(w.heap.size+1+1+1),3,none⟩ (.string ⟨#[]⟩)).setCell ⟨(w.heap.size+1+1+1),4,none⟩ (.string ⟨#[]⟩)).setCell ⟨(w.heap.size+1+1+1),5,none⟩ (.string ⟨#[]⟩)).setCell ⟨(w.heap.size+1+1+1),6,none⟩ (.int .i64 0)).setCell ⟨(w.heap.size+1+1+1),7,none⟩ (.string ⟨#[]⟩)).setCell ⟨(w.heap.size+1+1+1),8,none⟩ (.string ⟨#[]⟩)).setCell ⟨(w.heap.size+1+1+1),9,none⟩ (.string ⟨#[]⟩)).setCell ⟨(w.heap.size+1+1+1),10,none⟩ (.int .i64 0)).setCell ⟨(w.heap.size+1+1+1),11,none⟩ (.string ⟨#[]⟩)).setCell ⟨(w.heap.size+1+1+1),12,none⟩ (.string ⟨#[]⟩)).setCell ⟨(w.heap.size+1+1+1),13,none⟩ (.string ⟨#[]⟩)).setCell ⟨(w.heap.size+1+1+1),14,none⟩ (.slice none 0 0):=⟨_,rfl⟩
 rw[←hX]
 obtain⟨hbX,hkX⟩:Blk X (w.heap.size+1+1+1) #[.string ⟨#[]⟩,.bool false,.int .i64 0,.string ⟨#[]⟩,.string ⟨#[]⟩,.string ⟨#[]⟩,.int .i64 0,.string ⟨#[]⟩,.string ⟨#[]⟩,.string ⟨#[]⟩,.int .i64 0,.string ⟨#[]⟩,.string ⟨#[]⟩,.string ⟨#[]⟩,.slice none 0 0] 29∧Keep (fun x=>x=(w.heap.size+1+1+1)) w2 X:=by rw[hX];exact⟨lk_cells15 HZ.out (.string ⟨#[]⟩) (.bool false) (.int .i64 0) (.string ⟨#[]⟩) (.string ⟨#[]⟩) (.string ⟨#[]⟩) (.int .i64 0) (.string ⟨#[]⟩) (.string ⟨#[]⟩) (.string ⟨#[]⟩) (.int .i64 0) (.string ⟨#[]⟩) (.string ⟨#[]⟩) (.string ⟨#[]⟩) (.slice none 0 0),lk_keep15 _ _ _ _ _ _ _ _ _ _ _ _ _ _ _ _ _⟩
 have HBX:Hid (Below w.heap.size w X):=(kqt hbV hb2).trans (hkX.below (kqt hbV hb2).size (fun a e=>by have h2:a=(w.heap.size+1+1+1):=e;omega))
 obtain⟨Y,hY⟩:∃Y,Y=X.alloc (.cells #[.int .i64 0,.string ⟨#[]⟩,.string ⟨#[]⟩,.string ⟨#[]⟩] 26):=⟨_,rfl⟩
 rw[←hY]
 have hbY:Blk Y (w.heap.size+1+1+1) #[.string ⟨#[]⟩,.bool false,.int .i64 0,.string ⟨#[]⟩,.string ⟨#[]⟩,.string ⟨#[]⟩,.int .i64 0,.string ⟨#[]⟩,.string ⟨#[]⟩,.string ⟨#[]⟩,.int .i64 0,.string ⟨#[]⟩,.string ⟨#[]⟩,.string ⟨#[]⟩,.slice none 0 0] 29:=by rw[hY];exact hbX.up kqx
 have HBY:Hid (Below w.heap.size w Y):=by rw[hY];exact kqt HBX.out kqx
 clear hY hX hkX hbX
 have z0:=hbY.cell 0
 have z1:=hbY.cell 1
 have z2:=hbY.cell 2
 have z3:=hbY.cell 3
 have z4:=hbY.cell 4
 have z5:=hbY.cell 5
 have z6:=hbY.cell 6
 have z7:=hbY.cell 7
 have z8:=hbY.cell 8
 have z9:=hbY.cell 9
 have z10:=hbY.cell 10
 have z11:=hbY.cell 11
 have z12:=hbY.cell 12
 have z13:=hbY.cell 13
 have z14:=hbY.cell 14
 simp only[List.getElem?_toArray,List.getElem?_cons_zero,List.getElem?_cons_succ]at z0 z1 z2 z3 z4 z5 z6 z7 z8 z9 z10 z11 z12 z13 z14
 refine bodyPost_ret (v:=.tuple #[.agg #[.string ⟨#[]⟩,.bool false,.int .i64 0,.string ⟨#[]⟩,.string ⟨#[]⟩,.string ⟨#[]⟩,.int .i64 0,.string ⟨#[]⟩,.string ⟨#[]⟩,.string ⟨#[]⟩,.int .i64 0,.string ⟨#[]⟩,.string ⟨#[]⟩,.string ⟨#[]⟩,.slice none 0 0],.iface 70 (.int .i64 n)]) (by simp[results,Tryz.results5,go_sem,z0,z1,z2,z3,z4,z5,z6,z7,z8,z9,z10,z11,z12,z13,z14]) rfl ⟨?_,HBY.out⟩
 exact HR.out _
theorem link_what (h0:pof p=0)(h1:fif p.who who=0)(hn:fif p.what what≠0):
 Calls Tryz.prog 5 #[poV p pc cc,uiV who,uiV what] w fun e w'=>LkRet p who what w' e∧Below w.heap.size w w':=by
 obtain⟨V,hV⟩:∃V,V=(((w.alloc (.cells (poC p pc cc) 29)).alloc (.cells #[.string who.t,.string who.i] 24)).alloc (.cells #[.string what.t,.string what.i] 24)).alloc (.cells #[.string ⟨#[]⟩,.bool false,.int .i64 0,.string ⟨#[]⟩,.string ⟨#[]⟩,.string ⟨#[]⟩,.int .i64 0,.string ⟨#[]⟩,.string ⟨#[]⟩,.string ⟨#[]⟩,.int .i64 0,.string ⟨#[]⟩,.string ⟨#[]⟩,.string ⟨#[]⟩,.slice none 0 0] 29):=⟨_,rfl⟩
 have hbV:Below w.heap.size w V:=by rw[hV];exact kqx
 have HA:Hid (∀W,Below V.heap.size V W→Blk W w.heap.size (poC p pc cc) 29∧Blk W (w.heap.size+1) #[.string who.t,.string who.i] 24∧Blk W (w.heap.size+1+1) #[.string what.t,.string what.i] 24∧Blk W (w.heap.size+1+1+1) #[.string ⟨#[]⟩,.bool false,.int .i64 0,.string ⟨#[]⟩,.string ⟨#[]⟩,.string ⟨#[]⟩,.int .i64 0,.string ⟨#[]⟩,.string ⟨#[]⟩,.string ⟨#[]⟩,.int .i64 0,.string ⟨#[]⟩,.string ⟨#[]⟩,.string ⟨#[]⟩,.slice none 0 0] 29):=fun W hW=>by
  have h1:Blk V w.heap.size (poC p pc cc) 29:=by rw[hV];exact(((Blk.new w _ _ rfl).up kqx).up kqx).up kqx
  have h2:Blk V (w.heap.size+1) #[.string who.t,.string who.i] 24:=by rw[hV];refine((Blk.new (w.alloc _) _ _ ?_).up kqx).up kqx;simp
  have h3:Blk V (w.heap.size+1+1) #[.string what.t,.string what.i] 24:=by rw[hV];refine(Blk.new ((w.alloc _).alloc _) _ _ ?_).up kqx;simp
  have h4:Blk V (w.heap.size+1+1+1) #[.string ⟨#[]⟩,.bool false,.int .i64 0,.string ⟨#[]⟩,.string ⟨#[]⟩,.string ⟨#[]⟩,.int .i64 0,.string ⟨#[]⟩,.string ⟨#[]⟩,.string ⟨#[]⟩,.int .i64 0,.string ⟨#[]⟩,.string ⟨#[]⟩,.string ⟨#[]⟩,.slice none 0 0] 29:=by rw[hV];refine Blk.new (((w.alloc _).alloc _).alloc _) _ _ ?_;simp
  exact⟨h1.up hW,h2.up hW,h3.up hW,h4.up hW⟩
 have hltV:w.heap.size+1+1+1<V.heap.size:=(HA.out V (Below.refl _ _)).2.2.2.lt
 have HC:=fun W (hW:Below V.heap.size V W)=>pcheck_any p pc cc W ((h.up hbV).up hW)
 have HF1:=fun W=>filled_any p.who who W hu
 have HF2:=fun W=>filled_any p.what what W hv
 have HR:Hid (∀W,LkRet p who what W (.returned (.tuple #[poZ,.iface 70 (.int .i64 (fif p.what what))]))):=fun W=>by
  have hl:lkf p who what=fif p.what what:=by unfold lkf;rw[if_pos h0,if_pos h1]
  show LkRet _ _ _ _ _
  unfold LkRet
  rw[hl,if_neg hn,eV_not hn]
 rw[eV_nil h0]at HC
 have HF1:∀W,Calls Tryz.prog 12 #[scV p.who,uiV who] W fun e w'=>e= .returned (.tuple #[scV (fil p.who who),.nilIface])∧Below W.heap.size W w':=fun W=>(HF1 W).mono (by
  rintro e w' ⟨k1,k2⟩
  unfold FilRet at k1
  rw[if_pos h1]at k1
  exact⟨k1,k2⟩)
 have HF2:∀W,Calls Tryz.prog 12 #[scV p.what,uiV what] W fun e w'=>e= .returned (.tuple #[scV ⟨0,eB,eU⟩,.iface 70 (.int .i64 (fif p.what what))])∧Below W.heap.size W w':=fun W=>(HF2 W).mono (by
  rintro e w' ⟨k1,k2⟩
  unfold FilRet at k1
  rw[if_neg hn,eV_not hn]at k1
  exact⟨k1,k2⟩)
 generalize fif p.what what=n at *
 generalize fil p.who who=S at *
 unfold eB eU eB at HF2
 clear hn h0 h1 h hu hv
 unfold poC at hV
 unfold poV uiV at *
 try unfold scV at *
 go_enter Tryz.func5,Tryz.ntmps5
 go_wp2_with fail
 rw[←hV]
 clear hV
 refine(HC _ (Below.refl _ _)).mono ?_
 rintro _ w1 ⟨rfl,hb1⟩
 clear HC
 obtain⟨hB0,hB1,hB2,hB3⟩:=HA.out w1 hb1
 obtain⟨x0,x1,x2,x3,x4,x5,x6,x7,x8,x9,x10,x11,x12,x13,x14⟩:=po_cells hB0
 have u0:=hB1.cell 0
 have u1:=hB1.cell 1
 simp only[List.getElem?_toArray,List.getElem?_cons_zero,List.getElem?_cons_succ]at u0 u1
 clear hB0 hB1 hB2 hB3
 go_wp2_with fail
 refine(HF1 _).mono ?_
 rintro _ w2 ⟨rfl,hb2'⟩
 have hb2:Below V.heap.size V w2:=kqt hb1 hb2'
 clear HF1 hb2' u0 u1 x0 x1 x2 x3 x4 x5 x6 x7 x8 x9 x10 x11 x12 x13 x14
 obtain⟨V2,hV2⟩:∃V2,V2=w2.alloc (.cells #[.int .i64 S.op,.string S.ty,.string S.u.t,.string S.u.i] 26):=⟨_,rfl⟩
 have hbV2:Below V.heap.size V V2:=by rw[hV2];exact kqt hb2 kqx
 have HS4:Hid (Blk V2 w2.heap.size #[.int .i64 S.op,.string S.ty,.string S.u.t,.string S.u.i] 26):=by rw[hV2];exact Blk.new w2 _ _ rfl
 obtain⟨g4,hg4⟩:∃g,g=w2.heap.size:=⟨_,rfl⟩
 rw[←hg4]at HS4
 have hg4V:V.heap.size≤g4:=by rw[hg4];exact hb2.size
 obtain⟨hB0,hB1,hB2,hB3⟩:=HA.out w2 hb2
 have hlt2:w.heap.size<w2.heap.size:=hB0.lt
 have hlt3:w.heap.size+1+1<w2.heap.size:=hB2.lt
 obtain⟨x0,x1,x2,x3,x4,x5,x6,x7,x8,x9,x10,x11,x12,x13,x14⟩:=po_cells hB0
 have u0:=hB2.cell 0
 have u1:=hB2.cell 1
 simp only[List.getElem?_toArray,List.getElem?_cons_zero,List.getElem?_cons_succ]at u0 u1
 clear hB0 hB1 hB2 hB3
 go_wp2_with fail
 rw[←hV2,←hg4]
 clear hV2 hg4
 refine(HF2 _).mono ?_
 rintro _ w3 ⟨rfl,hb3'⟩
 have hb3:Below V.heap.size V w3:=kqt hbV2 hb3'
 have HS5:Hid (Blk w3 g4 #[.int .i64 S.op,.string S.ty,.string S.u.t,.string S.u.i] 26):=HS4.out.up hb3'
 clear HF2 HS4 hb3' hlt2 hlt3 u0 u1 x0 x1 x2 x3 x4 x5 x6 x7 x8 x9 x10 x11 x12 x13 x14
 obtain⟨hB0,hB1,hB2,hB3⟩:=HA.out w3 hb3
 have HZ:Hid (Blk w3 (w.heap.size+1+1+1) #[.string ⟨#[]⟩,.bool false,.int .i64 0,.string ⟨#[]⟩,.string ⟨#[]⟩,.string ⟨#[]⟩,.int .i64 0,.string ⟨#[]⟩,.string ⟨#[]⟩,.string ⟨#[]⟩,.int .i64 0,.string ⟨#[]⟩,.string ⟨#[]⟩,.string ⟨#[]⟩,.slice none 0 0] 29):=hB3
 have hlt:w.heap.size+1+1+1<w3.heap.size:=hB3.lt
 have y0:=hB3.cell 0
 have f0:=hB3.free 0
 have y1:=hB3.cell 1
 have f1:=hB3.free 1
 have y2:=hB3.cell 2
 have f2:=hB3.free 2
 have y3:=hB3.cell 3
 have f3:=hB3.free 3
 have y4:=hB3.cell 4
 have f4:=hB3.free 4
 have y5:=hB3.cell 5
 have f5:=hB3.free 5
 have y6:=hB3.cell 6
 have f6:=hB3.free 6
 have y7:=hB3.cell 7
 have f7:=hB3.free 7
 have y8:=hB3.cell 8
 have f8:=hB3.free 8
 have y9:=hB3.cell 9
 have f9:=hB3.free 9
 have y10:=hB3.cell 10
 have f10:=hB3.free 10
 have y11:=hB3.cell 11
 have f11:=hB3.free 11
 have y12:=hB3.cell 12
 have f12:=hB3.free 12
 have y13:=hB3.cell 13
 have f13:=hB3.free 13
 have y14:=hB3.cell 14
 have f14:=hB3.free 14
 simp only[List.getElem?_toArray,List.getElem?_cons_zero,List.getElem?_cons_succ]at y0 y1 y2 y3 y4 y5 y6 y7 y8 y9 y10 y11 y12 y13 y14
 clear HA HS5 hB0 hB1 hB2 hB3
 go_wp2
 obtain⟨X,hX⟩:∃X,X=(((((((((((((((w3).setCell ⟨(w.heap.size+1+1+1),0,none⟩ (.string ⟨#[]⟩)).setCell ⟨(w.heap.size+1+1+1),1,none⟩ (.bool false)).setCell ⟨(w.heap.size+1+1+1),2,none⟩ (.int .i64 0)).setCell ⟨(w.heap.size+1+1+1),3,none⟩ (.string ⟨#[]⟩)).setCell ⟨(w.heap.size+1+1+1),4,none⟩ (.string ⟨#[]⟩)).setCell ⟨(w.heap.size+1+1+1),5,none⟩ (.string ⟨#[]⟩)).setCell ⟨(w.heap.size+1+1+1),6,none⟩ (.int .i64 0)).setCell ⟨(w.heap.size+1+1+1),7,none⟩ (.string ⟨#[]⟩)).setCell ⟨(w.heap.size+1+1+1),8,none⟩ (.string ⟨#[]⟩)).setCell ⟨(w.heap.size+1+1+1),9,none⟩ (.string ⟨#[]⟩)).setCell ⟨(w.heap.size+1+1+1),10,none⟩ (.int .i64 0)).setCell ⟨(w.heap.size+1+1+1),11,none⟩ (.string ⟨#[]⟩)).setCell ⟨(w.heap.size+1+1+1),12,none⟩ (.string ⟨#[]⟩)).setCell ⟨(w.heap.size+1+1+1),13,none⟩ (.string ⟨#[]⟩)).setCell ⟨(w.heap.size+1+1+1),14,none⟩ (.slice none 0 0):=⟨_,rfl⟩
 rw[←hX]
 obtain⟨hbX,hkX⟩:Blk X (w.heap.size+1+1+1) #[.string ⟨#[]⟩,.bool false,.int .i64 0,.string ⟨#[]⟩,.string ⟨#[]⟩,.string ⟨#[]⟩,.int .i64 0,.string ⟨#[]⟩,.string ⟨#[]⟩,.string ⟨#[]⟩,.int .i64 0,.string ⟨#[]⟩,.string ⟨#[]⟩,.string ⟨#[]⟩,.slice none 0 0] 29∧Keep (fun x=>x=(w.heap.size+1+1+1)) w3 X:=by rw[hX];exact⟨lk_cells15 HZ.out (.string ⟨#[]⟩) (.bool false) (.int .i64 0) (.string ⟨#[]⟩) (.string ⟨#[]⟩) (.string ⟨#[]⟩) (.int .i64 0) (.string ⟨#[]⟩) (.string ⟨#[]⟩) (.string ⟨#[]⟩) (.int .i64 0) (.string ⟨#[]⟩) (.string ⟨#[]⟩) (.string ⟨#[]⟩) (.slice none 0 0),lk_keep15 _ _ _ _ _ _ _ _ _ _ _ _ _ _ _ _ _⟩
 have HBX:Hid (Below w.heap.size w X):=(kqt hbV hb3).trans (hkX.below (kqt hbV hb3).size (fun a e=>by have h2:a=(w.heap.size+1+1+1):=e;omega))
 obtain⟨Y,hY⟩:∃Y,Y=X.alloc (.cells #[.int .i64 0,.string ⟨#[]⟩,.string ⟨#[]⟩,.string ⟨#[]⟩] 26):=⟨_,rfl⟩
 rw[←hY]
 have hbY:Blk Y (w.heap.size+1+1+1) #[.string ⟨#[]⟩,.bool false,.int .i64 0,.string ⟨#[]⟩,.string ⟨#[]⟩,.string ⟨#[]⟩,.int .i64 0,.string ⟨#[]⟩,.string ⟨#[]⟩,.string ⟨#[]⟩,.int .i64 0,.string ⟨#[]⟩,.string ⟨#[]⟩,.string ⟨#[]⟩,.slice none 0 0] 29:=by rw[hY];exact hbX.up kqx
 have HBY:Hid (Below w.heap.size w Y):=by rw[hY];exact kqt HBX.out kqx
 clear hY hX hkX hbX
 have z0:=hbY.cell 0
 have z1:=hbY.cell 1
 have z2:=hbY.cell 2
 have z3:=hbY.cell 3
 have z4:=hbY.cell 4
 have z5:=hbY.cell 5
 have z6:=hbY.cell 6
 have z7:=hbY.cell 7
 have z8:=hbY.cell 8
 have z9:=hbY.cell 9
 have z10:=hbY.cell 10
 have z11:=hbY.cell 11
 have z12:=hbY.cell 12
 have z13:=hbY.cell 13
 have z14:=hbY.cell 14
 simp only[List.getElem?_toArray,List.getElem?_cons_zero,List.getElem?_cons_succ]at z0 z1 z2 z3 z4 z5 z6 z7 z8 z9 z10 z11 z12 z13 z14
 refine bodyPost_ret (v:=.tuple #[.agg #[.string ⟨#[]⟩,.bool false,.int .i64 0,.string ⟨#[]⟩,.string ⟨#[]⟩,.string ⟨#[]⟩,.int .i64 0,.string ⟨#[]⟩,.string ⟨#[]⟩,.string ⟨#[]⟩,.int .i64 0,.string ⟨#[]⟩,.string ⟨#[]⟩,.string ⟨#[]⟩,.slice none 0 0],.iface 70 (.int .i64 n)]) (by simp[results,Tryz.results5,go_sem,z0,z1,z2,z3,z4,z5,z6,z7,z8,z9,z10,z11,z12,z13,z14]) rfl ⟨?_,HBY.out⟩
 exact HR.out _
end
section
variable (p:Po) (pc:Option Addr) (cc:Nat) (who what:Ui) (w:World) (h:PoA w p pc cc) (hu:UOk who) (hv:UOk what)
include h hu hv
theorem link_ok (h0:pof p=0)(h1:fif p.who who=0)(h2:fif p.what what=0):
 Calls Tryz.prog 5 #[poV p pc cc,uiV who,uiV what] w fun e w'=>LkRet p who what w' e∧Below w.heap.size w w':=by
 obtain⟨V,hV⟩:∃V,V=(((w.alloc (.cells (poC p pc cc) 29)).alloc (.cells #[.string who.t,.string who.i] 24)).alloc (.cells #[.string what.t,.string what.i] 24)).alloc (.cells #[.string ⟨#[]⟩,.bool false,.int .i64 0,.string ⟨#[]⟩,.string ⟨#[]⟩,.string ⟨#[]⟩,.int .i64 0,.string ⟨#[]⟩,.string ⟨#[]⟩,.string ⟨#[]⟩,.int .i64 0,.string ⟨#[]⟩,.string ⟨#[]⟩,.string ⟨#[]⟩,.slice none 0 0] 29):=⟨_,rfl⟩
 have hbV:Below w.heap.size w V:=by rw[hV];exact kqx
 have HA:Hid (∀W,Below V.heap.size V W→Blk W w.heap.size (poC p pc cc) 29∧Blk W (w.heap.size+1) #[.string who.t,.string who.i] 24∧Blk W (w.heap.size+1+1) #[.string what.t,.string what.i] 24∧Blk W (w.heap.size+1+1+1) #[.string ⟨#[]⟩,.bool false,.int .i64 0,.string ⟨#[]⟩,.string ⟨#[]⟩,.string ⟨#[]⟩,.int .i64 0,.string ⟨#[]⟩,.string ⟨#[]⟩,.string ⟨#[]⟩,.int .i64 0,.string ⟨#[]⟩,.string ⟨#[]⟩,.string ⟨#[]⟩,.slice none 0 0] 29):=fun W hW=>by
  have h1:Blk V w.heap.size (poC p pc cc) 29:=by rw[hV];exact(((Blk.new w _ _ rfl).up kqx).up kqx).up kqx
  have h2:Blk V (w.heap.size+1) #[.string who.t,.string who.i] 24:=by rw[hV];refine((Blk.new (w.alloc _) _ _ ?_).up kqx).up kqx;simp
  have h3:Blk V (w.heap.size+1+1) #[.string what.t,.string what.i] 24:=by rw[hV];refine(Blk.new ((w.alloc _).alloc _) _ _ ?_).up kqx;simp
  have h4:Blk V (w.heap.size+1+1+1) #[.string ⟨#[]⟩,.bool false,.int .i64 0,.string ⟨#[]⟩,.string ⟨#[]⟩,.string ⟨#[]⟩,.int .i64 0,.string ⟨#[]⟩,.string ⟨#[]⟩,.string ⟨#[]⟩,.int .i64 0,.string ⟨#[]⟩,.string ⟨#[]⟩,.string ⟨#[]⟩,.slice none 0 0] 29:=by rw[hV];refine Blk.new (((w.alloc _).alloc _).alloc _) _ _ ?_;simp
  exact⟨h1.up hW,h2.up hW,h3.up hW,h4.up hW⟩
 have hltV:w.heap.size+1+1+1<V.heap.size:=(HA.out V (Below.refl _ _)).2.2.2.lt
 have HC:=fun W (hW:Below V.heap.size V W)=>pcheck_any p pc cc W ((h.up hbV).up hW)
 have HF1:=fun W=>filled_any p.who who W hu
 have HF2:=fun W=>filled_any p.what what W hv
 have hL:lkf p who what=0:=by unfold lkf;rw[if_pos h0,if_pos h1];exact h2
 obtain⟨_,_,_,_,g5',g6'⟩:=pof_ways h0
 have HCP:=fun W (hW:Below V.heap.size V W)=>copied_any p.cs pc cc W ((h.cl.up hbV).up hW) (fun c hc=>by
  have hx:=(cdf_zero (csf_zero g6' c hc)).1
  refine⟨fun e=>?_,(xfault_zero hx).1⟩
  have:=(xfault_zero hx).2
  rw[e]at this
  simp[pastE]at this) g5'
 rw[eV_nil h0]at HC
 have HF1:∀W,Calls Tryz.prog 12 #[scV p.who,uiV who] W fun e w'=>e= .returned (.tuple #[scV (fil p.who who),.nilIface])∧Below W.heap.size W w':=fun W=>(HF1 W).mono (by
  rintro e w' ⟨k1,k2⟩
  unfold FilRet at k1
  rw[if_pos h1]at k1
  exact⟨k1,k2⟩)
 have HF2:∀W,Calls Tryz.prog 12 #[scV p.what,uiV what] W fun e w'=>e= .returned (.tuple #[scV (fil p.what what),.nilIface])∧Below W.heap.size W w':=fun W=>(HF2 W).mono (by
  rintro e w' ⟨k1,k2⟩
  unfold FilRet at k1
  rw[if_pos h2]at k1
  exact⟨k1,k2⟩)
 have HR:Hid (∀W q c,CdLT W q p.cs→p.cs.length≤c→c≤maxLen→LkRet p who what W (.returned (.tuple #[poV ⟨p.nm,p.fb,fil p.who who,p.act,fil p.what what,p.cs⟩ q c,.nilIface]))):=fun W q c k1 k2 k3=>by
  show LkRet _ _ _ _ _
  unfold LkRet
  rw[if_pos hL]
  exact⟨q,c,rfl,⟨h.nm,fil_sok h.who hu,h.act,fil_sok h.what hv,k1.cdl,k2,k3⟩,k1⟩
 generalize fil p.who who=S at *
 generalize fil p.what what=U at *
 clear hL h0 h1 h2 g5' g6' h hu hv
 unfold poC at hV
 unfold poV uiV at *
 try unfold scV at *
 go_enter Tryz.func5,Tryz.ntmps5
 go_wp2_with fail
 rw[←hV]
 clear hV
 refine(HC _ (Below.refl _ _)).mono ?_
 rintro _ w1 ⟨rfl,hb1⟩
 clear HC
 obtain⟨hB0,hB1,hB2,hB3⟩:=HA.out w1 hb1
 obtain⟨x0,x1,x2,x3,x4,x5,x6,x7,x8,x9,x10,x11,x12,x13,x14⟩:=po_cells hB0
 have u0:=hB1.cell 0
 have u1:=hB1.cell 1
 simp only[List.getElem?_toArray,List.getElem?_cons_zero,List.getElem?_cons_succ]at u0 u1
 clear hB0 hB1 hB2 hB3
 go_wp2_with fail
 refine(HF1 _).mono ?_
 rintro _ w2 ⟨rfl,hb2'⟩
 have hb2:Below V.heap.size V w2:=kqt hb1 hb2'
 clear HF1 hb2' u0 u1 x0 x1 x2 x3 x4 x5 x6 x7 x8 x9 x10 x11 x12 x13 x14
 obtain⟨V2,hV2⟩:∃V2,V2=w2.alloc (.cells #[.int .i64 S.op,.string S.ty,.string S.u.t,.string S.u.i] 26):=⟨_,rfl⟩
 have hbV2:Below V.heap.size V V2:=by rw[hV2];exact kqt hb2 kqx
 have HS4:Hid (Blk V2 w2.heap.size #[.int .i64 S.op,.string S.ty,.string S.u.t,.string S.u.i] 26):=by rw[hV2];exact Blk.new w2 _ _ rfl
 obtain⟨g4,hg4⟩:∃g,g=w2.heap.size:=⟨_,rfl⟩
 rw[←hg4]at HS4
 have hg4V:V.heap.size≤g4:=by rw[hg4];exact hb2.size
 obtain⟨hB0,hB1,hB2,hB3⟩:=HA.out w2 hb2
 have hlt2:w.heap.size<w2.heap.size:=hB0.lt
 have hlt3:w.heap.size+1+1<w2.heap.size:=hB2.lt
 obtain⟨x0,x1,x2,x3,x4,x5,x6,x7,x8,x9,x10,x11,x12,x13,x14⟩:=po_cells hB0
 have u0:=hB2.cell 0
 have u1:=hB2.cell 1
 simp only[List.getElem?_toArray,List.getElem?_cons_zero,List.getElem?_cons_succ]at u0 u1
 clear hB0 hB1 hB2 hB3
 go_wp2_with fail
 rw[←hV2,←hg4]
 clear hV2 hg4
 refine(HF2 _).mono ?_
 rintro _ w3 ⟨rfl,hb3'⟩
 have hb3:Below V.heap.size V w3:=kqt hbV2 hb3'
 have HS5:Hid (Blk w3 g4 #[.int .i64 S.op,.string S.ty,.string S.u.t,.string S.u.i] 26):=HS4.out.up hb3'
 clear HF2 HS4 hb3' hlt2 hlt3 u0 u1 x0 x1 x2 x3 x4 x5 x6 x7 x8 x9 x10 x11 x12 x13 x14
 obtain⟨V3,hV3⟩:∃V3,V3=w3.alloc (.cells #[.int .i64 U.op,.string U.ty,.string U.u.t,.string U.u.i] 26):=⟨_,rfl⟩
 have hbV3:Below V.heap.size V V3:=by rw[hV3];exact kqt hb3 kqx
 have HS6:Hid (Blk V3 w3.heap.size #[.int .i64 U.op,.string U.ty,.string U.u.t,.string U.u.i] 26):=by rw[hV3];exact Blk.new w3 _ _ rfl
 have HS7:Hid (Blk V3 g4 #[.int .i64 S.op,.string S.ty,.string S.u.t,.string S.u.i] 26):=by rw[hV3];exact HS5.out.up kqx
 obtain⟨g5,hg5⟩:∃g,g=w3.heap.size:=⟨_,rfl⟩
 rw[←hg5]at HS6
 have hg5V:V.heap.size≤g5:=by rw[hg5];exact hb3.size
 have HSS:Hid (∀W,Below V3.heap.size V3 W→W.cell? ⟨g4,0,none⟩=some (.int .i64 S.op)∧W.cell? ⟨g4,1,none⟩=some (.string S.ty)∧W.cell? ⟨g4,2,none⟩=some (.string S.u.t)∧W.cell? ⟨g4,3,none⟩=some (.string S.u.i)∧W.cell? ⟨g5,0,none⟩=some (.int .i64 U.op)∧W.cell? ⟨g5,1,none⟩=some (.string U.ty)∧W.cell? ⟨g5,2,none⟩=some (.string U.u.t)∧W.cell? ⟨g5,3,none⟩=some (.string U.u.i)):=fun W hW=>⟨(HS7.out.up hW).cell 0,(HS7.out.up hW).cell 1,(HS7.out.up hW).cell 2,(HS7.out.up hW).cell 3,(HS6.out.up hW).cell 0,(HS6.out.up hW).cell 1,(HS6.out.up hW).cell 2,(HS6.out.up hW).cell 3⟩
 have n4:¬w.heap.size=g4:=by omega
 have n5:¬w.heap.size=g5:=by omega
 have m4:¬g4=w.heap.size:=by omega
 have m5:¬g5=w.heap.size:=by omega
 obtain⟨hB0,hB1,hB2,hB3⟩:=HA.out V3 hbV3
 have c14:=(po_cells hB0).2.2.2.2.2.2.2.2.2.2.2.2.2.2
 clear hB0 hB1 hB2 hB3 HS5 HS6 HS7
 go_wp2_with fail
 rw[←hV3,←hg5]
 clear hV3 hg5
 obtain⟨D,hD⟩:∃D,D=V3.drew:=⟨_,rfl⟩
 have kD:Below V3.heap.size V3 D:=by rw[hD];exact kqx
 have d14:D.cell? ⟨w.heap.size,14,none⟩=some (.slice pc p.cs.length cc):=(kD.cell (p:=⟨w.heap.size,14,none⟩) (by show w.heap.size<V3.heap.size;have:=hbV3.size;omega)).trans c14
 refine wp_region_held_drew (S:=fun w'=>w'.cell? ⟨g4,0,none⟩=some (.int .i64 S.op)∧w'.cell? ⟨g4,1,none⟩=some (.string S.ty)∧w'.cell? ⟨g4,2,none⟩=some (.string S.u.t)∧w'.cell? ⟨g4,3,none⟩=some (.string S.u.i)∧w'.cell? ⟨g5,0,none⟩=some (.int .i64 U.op)∧w'.cell? ⟨g5,1,none⟩=some (.string U.ty)∧w'.cell? ⟨g5,2,none⟩=some (.string U.u.t)∧w'.cell? ⟨g5,3,none⟩=some (.string U.u.i)) (by kernel_rfl) (HSS.out _ kqx) (fun hHeld=>?_)
 rw[←hD]at hHeld ⊢
 clear hD c14
 refine wpAnyH_take (i:=0) (v:=?_) rfl (by kernel_rfl) (by kernel_rfl) (by kernel_rfl) (fun _ _ _ h=>h) (Or.inl ⟨by kernel_rfl,?_⟩) (by assumption) ?_
 rotate_left
 · intro w hSw
   try dsimp only at hSw
   go_simp
   all_goals with_reducible rfl
 try simp only[Act.put,List.getElem_toArray,List.getElem_cons_succ,List.getElem_cons_zero,List.setIfInBounds_toArray,List.set_cons_zero,List.set_cons_succ]
 refine wpAnyH_take (i:=1) (v:=?_) rfl (by kernel_rfl) (by kernel_rfl) (by kernel_rfl) (fun _ _ _ h=>h) (Or.inl ⟨by kernel_rfl,?_⟩) (by assumption) ?_
 rotate_left
 · intro w hSw
   try dsimp only at hSw
   go_simp
   all_goals with_reducible rfl
 try simp only[Act.put,List.getElem_toArray,List.getElem_cons_succ,List.getElem_cons_zero,List.setIfInBounds_toArray,List.set_cons_zero,List.set_cons_succ]
 refine wpAnyH_take (i:=2) (v:=?_) rfl (by kernel_rfl) (by kernel_rfl) (by kernel_rfl) (fun _ _ _ h=>h) (Or.inl ⟨by kernel_rfl,?_⟩) (by assumption) ?_
 rotate_left
 · intro w hSw
   try dsimp only at hSw
   go_simp
   all_goals with_reducible rfl
 try simp only[Act.put,List.getElem_toArray,List.getElem_cons_succ,List.getElem_cons_zero,List.setIfInBounds_toArray,List.set_cons_zero,List.set_cons_succ]
 refine wpAnyH_ready (rs:=[3]) (by kernel_rfl) (by simp) ?_
 refine AllReadyH.cons rfl (fun K hK=>?_) (AllReadyH.nil)
 go_simp
 refine hK.out _ _ (HSS.out _ kD) (fun hHeld=>?_)
 clear hK K
 try simp only[Act.put,List.getElem_toArray,List.getElem_cons_succ,List.getElem_cons_zero,List.setIfInBounds_toArray,List.set_cons_zero,List.set_cons_succ]
 refine wpAnyH_take (i:=5) (v:=?_) rfl (by kernel_rfl) (by kernel_rfl) (by kernel_rfl) (fun _ _ _ h=>h) (Or.inl ⟨by kernel_rfl,?_⟩) (by assumption) ?_
 rotate_left
 · intro w hSw
   try dsimp only at hSw
   go_simp
   all_goals with_reducible rfl
 try simp only[Act.put,List.getElem_toArray,List.getElem_cons_succ,List.getElem_cons_zero,List.setIfInBounds_toArray,List.set_cons_zero,List.set_cons_succ]
 refine wpAnyH_ready (rs:=[4]) (by kernel_rfl) (by simp) ?_
 refine AllReadyH.cons rfl (fun K hK=>?_) (AllReadyH.nil)
 go_simp
 go_wp2_with fail
 refine(HCP _ (kqt hbV3 kD)).mono ?_
 rintro _ w4 ⟨⟨q,c,rfl,hcd,hle,hcm⟩,hb4'⟩
 have hb4:Below V3.heap.size V3 w4:=kqt kD hb4'
 have hb4V:Below V.heap.size V w4:=kqt hbV3 hb4
 have HCD:Hid (CdLT w4 q p.cs∧p.cs.length≤c∧c≤maxLen):=⟨hcd,hle,hcm⟩
 have HP4:Hid (Blk w4 w.heap.size #[.string p.nm,.bool p.fb,.int .i64 p.who.op,.string p.who.ty,.string p.who.u.t,.string p.who.u.i,.int .i64 p.act.op,.string p.act.ty,.string p.act.u.t,.string p.act.u.i,.int .i64 p.what.op,.string p.what.ty,.string p.what.u.t,.string p.what.u.i,.slice pc p.cs.length cc] 29∧Blk w4 (w.heap.size+1+1+1) #[.string ⟨#[]⟩,.bool false,.int .i64 0,.string ⟨#[]⟩,.string ⟨#[]⟩,.string ⟨#[]⟩,.int .i64 0,.string ⟨#[]⟩,.string ⟨#[]⟩,.string ⟨#[]⟩,.int .i64 0,.string ⟨#[]⟩,.string ⟨#[]⟩,.string ⟨#[]⟩,.slice none 0 0] 29):=by
  obtain⟨hB0,_,_,hB3⟩:=HA.out w4 hb4V
  exact⟨hB0,hB3⟩
 clear hcd hle hcm hb4' d14 HCP HA
 refine hK.out _ _ (HSS.out _ hb4) (fun hHeld=>?_)
 clear hK K
 try simp only[Act.put,List.getElem_toArray,List.getElem_cons_succ,List.getElem_cons_zero,List.setIfInBounds_toArray,List.set_cons_zero,List.set_cons_succ]
 have sw4:=HSS.out _ hb4
 have l4w4:g4<w4.heap.size:=World.block_lt_of_cell? _ _ sw4.1
 have l5w4:g5<w4.heap.size:=World.block_lt_of_cell? _ _ sw4.2.2.2.2.1
 refine wpAnyH_ready (rs:=[6]) (by kernel_rfl) (by simp) ?_
 refine AllReadyH.cons rfl (fun K hK=>?_) (AllReadyH.nil)
 have y2:w4.cell? ⟨w.heap.size,2,none⟩=some (.int .i64 p.who.op):=HP4.out.1.cell 2
 have f2:=HP4.out.1.free 2
 have y3:w4.cell? ⟨w.heap.size,3,none⟩=some (.string p.who.ty):=HP4.out.1.cell 3
 have f3:=HP4.out.1.free 3
 have y4:w4.cell? ⟨w.heap.size,4,none⟩=some (.string p.who.u.t):=HP4.out.1.cell 4
 have f4:=HP4.out.1.free 4
 have y5:w4.cell? ⟨w.heap.size,5,none⟩=some (.string p.who.u.i):=HP4.out.1.cell 5
 have f5:=HP4.out.1.free 5
 go_simp
 obtain⟨W5,hW5⟩:∃V,V=((((w4).setCell ⟨w.heap.size,2,none⟩ (.int .i64 S.op)).setCell ⟨w.heap.size,3,none⟩ (.string S.ty)).setCell ⟨w.heap.size,4,none⟩ (.string S.u.t)).setCell ⟨w.heap.size,5,none⟩ (.string S.u.i):=⟨_,rfl⟩
 rw[←hW5]
 have HP5:Hid (Blk W5 w.heap.size #[.string p.nm,.bool p.fb,.int .i64 S.op,.string S.ty,.string S.u.t,.string S.u.i,.int .i64 p.act.op,.string p.act.ty,.string p.act.u.t,.string p.act.u.i,.int .i64 p.what.op,.string p.what.ty,.string p.what.u.t,.string p.what.u.i,.slice pc p.cs.length cc] 29∧Keep (fun x=>x=w.heap.size) w4 W5):=⟨by rw[hW5];exact((((HP4.out.1.set rfl).1.set rfl).1.set rfl).1.set rfl).1,by rw[hW5];exact(Keep.trans (Keep.trans (Keep.trans (keep_set _ w.heap.size 2 _) (keep_set _ w.heap.size 3 _) (fun _ e=>.inl e)) (keep_set _ w.heap.size 4 _) (fun _ e=>.inl e)) (keep_set _ w.heap.size 5 _) (fun _ e=>.inl e))⟩
 have sW5:W5.cell? ⟨g4,0,none⟩=some (.int .i64 S.op)∧W5.cell? ⟨g4,1,none⟩=some (.string S.ty)∧W5.cell? ⟨g4,2,none⟩=some (.string S.u.t)∧W5.cell? ⟨g4,3,none⟩=some (.string S.u.i)∧W5.cell? ⟨g5,0,none⟩=some (.int .i64 U.op)∧W5.cell? ⟨g5,1,none⟩=some (.string U.ty)∧W5.cell? ⟨g5,2,none⟩=some (.string U.u.t)∧W5.cell? ⟨g5,3,none⟩=some (.string U.u.i):=(by have k:∀g o,¬g=w.heap.size→g<w4.heap.size→W5.cell? ⟨g,o,none⟩=w4.cell? ⟨g,o,none⟩:=fun g o hg hl=>HP5.out.2.cell (p:=⟨g,o,none⟩) hl hg;simp only[k g4 _ m4 l4w4,k g5 _ m5 l5w4];exact sw4)
 clear hW5 y2 f2 y3 f3 y4 f4 y5 f5
 refine hK.out _ _ (sW5) (fun hHeld=>?_)
 clear hK K
 try simp only[Act.put,List.getElem_toArray,List.getElem_cons_succ,List.getElem_cons_zero,List.setIfInBounds_toArray,List.set_cons_zero,List.set_cons_succ]
 have l4W5:g4<W5.heap.size:=World.block_lt_of_cell? _ _ sW5.1
 have l5W5:g5<W5.heap.size:=World.block_lt_of_cell? _ _ sW5.2.2.2.2.1
 refine wpAnyH_take (i:=7) (v:=?_) rfl (by kernel_rfl) (by kernel_rfl) (by kernel_rfl) (fun _ _ _ h=>h) (Or.inl ⟨by kernel_rfl,?_⟩) (by assumption) ?_
 rotate_left
 · intro w hSw
   try dsimp only at hSw
   go_simp
   all_goals with_reducible rfl
 try simp only[Act.put,List.getElem_toArray,List.getElem_cons_succ,List.getElem_cons_zero,List.setIfInBounds_toArray,List.set_cons_zero,List.set_cons_succ]
 refine wpAnyH_ready (rs:=[8]) (by kernel_rfl) (by simp) ?_
 refine AllReadyH.cons rfl (fun K hK=>?_) (AllReadyH.nil)
 have y10:W5.cell? ⟨w.heap.size,10,none⟩=some (.int .i64 p.what.op):=HP5.out.1.cell 10
 have f10:=HP5.out.1.free 10
 have y11:W5.cell? ⟨w.heap.size,11,none⟩=some (.string p.what.ty):=HP5.out.1.cell 11
 have f11:=HP5.out.1.free 11
 have y12:W5.cell? ⟨w.heap.size,12,none⟩=some (.string p.what.u.t):=HP5.out.1.cell 12
 have f12:=HP5.out.1.free 12
 have y13:W5.cell? ⟨w.heap.size,13,none⟩=some (.string p.what.u.i):=HP5.out.1.cell 13
 have f13:=HP5.out.1.free 13
 go_simp
 obtain⟨W6,hW6⟩:∃V,V=((((W5).setCell ⟨w.heap.size,10,none⟩ (.int .i64 U.op)).setCell ⟨w.heap.size,11,none⟩ (.string U.ty)).setCell ⟨w.heap.size,12,none⟩ (.string U.u.t)).setCell ⟨w.heap.size,13,none⟩ (.string U.u.i):=⟨_,rfl⟩
 rw[←hW6]
 have HP6:Hid (Blk W6 w.heap.size #[.string p.nm,.bool p.fb,.int .i64 S.op,.string S.ty,.string S.u.t,.string S.u.i,.int .i64 p.act.op,.string p.act.ty,.string p.act.u.t,.string p.act.u.i,.int .i64 U.op,.string U.ty,.string U.u.t,.string U.u.i,.slice pc p.cs.length cc] 29∧Keep (fun x=>x=w.heap.size) W5 W6):=⟨by rw[hW6];exact((((HP5.out.1.set rfl).1.set rfl).1.set rfl).1.set rfl).1,by rw[hW6];exact(Keep.trans (Keep.trans (Keep.trans (keep_set _ w.heap.size 10 _) (keep_set _ w.heap.size 11 _) (fun _ e=>.inl e)) (keep_set _ w.heap.size 12 _) (fun _ e=>.inl e)) (keep_set _ w.heap.size 13 _) (fun _ e=>.inl e))⟩
 have sW6:W6.cell? ⟨g4,0,none⟩=some (.int .i64 S.op)∧W6.cell? ⟨g4,1,none⟩=some (.string S.ty)∧W6.cell? ⟨g4,2,none⟩=some (.string S.u.t)∧W6.cell? ⟨g4,3,none⟩=some (.string S.u.i)∧W6.cell? ⟨g5,0,none⟩=some (.int .i64 U.op)∧W6.cell? ⟨g5,1,none⟩=some (.string U.ty)∧W6.cell? ⟨g5,2,none⟩=some (.string U.u.t)∧W6.cell? ⟨g5,3,none⟩=some (.string U.u.i):=(by have k:∀g o,¬g=w.heap.size→g<W5.heap.size→W6.cell? ⟨g,o,none⟩=W5.cell? ⟨g,o,none⟩:=fun g o hg hl=>HP6.out.2.cell (p:=⟨g,o,none⟩) hl hg;simp only[k g4 _ m4 l4W5,k g5 _ m5 l5W5];exact sW5)
 clear hW6 y10 f10 y11 f11 y12 f12 y13 f13
 refine hK.out _ _ (sW6) (fun hHeld=>?_)
 clear hK K
 try simp only[Act.put,List.getElem_toArray,List.getElem_cons_succ,List.getElem_cons_zero,List.setIfInBounds_toArray,List.set_cons_zero,List.set_cons_succ]
 have l4W6:g4<W6.heap.size:=World.block_lt_of_cell? _ _ sW6.1
 have l5W6:g5<W6.heap.size:=World.block_lt_of_cell? _ _ sW6.2.2.2.2.1
 refine wpAnyH_take (i:=9) (v:=?_) rfl (by kernel_rfl) (by kernel_rfl) (by kernel_rfl) (fun _ _ _ h=>h) (Or.inl ⟨by kernel_rfl,?_⟩) (by assumption) ?_
 rotate_left
 · intro w hSw
   try dsimp only at hSw
   go_simp
   all_goals with_reducible rfl
 try simp only[Act.put,List.getElem_toArray,List.getElem_cons_succ,List.getElem_cons_zero,List.setIfInBounds_toArray,List.set_cons_zero,List.set_cons_succ]
 refine wpAnyH_ready (rs:=[10]) (by kernel_rfl) (by simp) ?_
 refine AllReadyH.cons rfl (fun K hK=>?_) (AllReadyH.nil)
 have y14:W6.cell? ⟨w.heap.size,14,none⟩=some (.slice pc p.cs.length cc):=HP6.out.1.cell 14
 have f14:=HP6.out.1.free 14
 go_simp
 obtain⟨W7,hW7⟩:∃V,V=(W6).setCell ⟨w.heap.size,14,none⟩ (.slice q p.cs.length c):=⟨_,rfl⟩
 rw[←hW7]
 have HP7:Hid (Blk W7 w.heap.size #[.string p.nm,.bool p.fb,.int .i64 S.op,.string S.ty,.string S.u.t,.string S.u.i,.int .i64 p.act.op,.string p.act.ty,.string p.act.u.t,.string p.act.u.i,.int .i64 U.op,.string U.ty,.string U.u.t,.string U.u.i,.slice q p.cs.length c] 29∧Keep (fun x=>x=w.heap.size) W6 W7):=⟨by rw[hW7];exact(HP6.out.1.set rfl).1,by rw[hW7];exact(keep_set _ w.heap.size 14 _)⟩
 have sW7:W7.cell? ⟨g4,0,none⟩=some (.int .i64 S.op)∧W7.cell? ⟨g4,1,none⟩=some (.string S.ty)∧W7.cell? ⟨g4,2,none⟩=some (.string S.u.t)∧W7.cell? ⟨g4,3,none⟩=some (.string S.u.i)∧W7.cell? ⟨g5,0,none⟩=some (.int .i64 U.op)∧W7.cell? ⟨g5,1,none⟩=some (.string U.ty)∧W7.cell? ⟨g5,2,none⟩=some (.string U.u.t)∧W7.cell? ⟨g5,3,none⟩=some (.string U.u.i):=(by have k:∀g o,¬g=w.heap.size→g<W6.heap.size→W7.cell? ⟨g,o,none⟩=W6.cell? ⟨g,o,none⟩:=fun g o hg hl=>HP7.out.2.cell (p:=⟨g,o,none⟩) hl hg;simp only[k g4 _ m4 l4W6,k g5 _ m5 l5W6];exact sW6)
 clear hW7 y14 f14
 refine hK.out _ _ (sW7) (fun hHeld=>?_)
 clear hK K
 try simp only[Act.put,List.getElem_toArray,List.getElem_cons_succ,List.getElem_cons_zero,List.setIfInBounds_toArray,List.set_cons_zero,List.set_cons_succ]
 refine wpAnyH_done (by kernel_rfl) ?_ _
 clear hHeld
 have HK7:Hid (Keep (fun x=>x=w.heap.size) w4 W7):=(HP5.out.2.trans HP6.out.2 (fun _ e=>.inl e)).trans HP7.out.2 (fun _ e=>.inl e)
 have hb7:Below w.heap.size w W7:=(kqt hbV hb4V).trans (HK7.out.below (kqt hbV hb4V).size (fun a e=>by have h2:a=w.heap.size:=e;omega))
 have HZ:Hid (Blk W7 (w.heap.size+1+1+1) #[.string ⟨#[]⟩,.bool false,.int .i64 0,.string ⟨#[]⟩,.string ⟨#[]⟩,.string ⟨#[]⟩,.int .i64 0,.string ⟨#[]⟩,.string ⟨#[]⟩,.string ⟨#[]⟩,.int .i64 0,.string ⟨#[]⟩,.string ⟨#[]⟩,.string ⟨#[]⟩,.slice none 0 0] 29):=HP4.out.2.keep HK7.out (by omega)
 have HC7:Hid (CdLT W7 q p.cs):=HCD.out.1.keep HK7.out (fun g e ht=>by have h2:g=w.heap.size:=e;subst h2;exact ht.ne ⟨_,_,HP4.out.1.blk⟩ (by decide) rfl) (fun g e ht=>by have h2:g=w.heap.size:=e;subst h2;exact ht.ne ⟨_,_,HP4.out.1.blk⟩ (by decide) rfl)
 have x0:W7.cell? ⟨w.heap.size,0,none⟩=some (.string p.nm):=HP7.out.1.cell 0
 have y0:W7.cell? ⟨(w.heap.size+1+1+1),0,none⟩=some (.string ⟨#[]⟩):=HZ.out.cell 0
 have f0:=HZ.out.free 0
 have x1:W7.cell? ⟨w.heap.size,1,none⟩=some (.bool p.fb):=HP7.out.1.cell 1
 have y1:W7.cell? ⟨(w.heap.size+1+1+1),1,none⟩=some (.bool false):=HZ.out.cell 1
 have f1:=HZ.out.free 1
 have x2:W7.cell? ⟨w.heap.size,2,none⟩=some (.int .i64 S.op):=HP7.out.1.cell 2
 have y2:W7.cell? ⟨(w.heap.size+1+1+1),2,none⟩=some (.int .i64 0):=HZ.out.cell 2
 have f2:=HZ.out.free 2
 have x3:W7.cell? ⟨w.heap.size,3,none⟩=some (.string S.ty):=HP7.out.1.cell 3
 have y3:W7.cell? ⟨(w.heap.size+1+1+1),3,none⟩=some (.string ⟨#[]⟩):=HZ.out.cell 3
 have f3:=HZ.out.free 3
 have x4:W7.cell? ⟨w.heap.size,4,none⟩=some (.string S.u.t):=HP7.out.1.cell 4
 have y4:W7.cell? ⟨(w.heap.size+1+1+1),4,none⟩=some (.string ⟨#[]⟩):=HZ.out.cell 4
 have f4:=HZ.out.free 4
 have x5:W7.cell? ⟨w.heap.size,5,none⟩=some (.string S.u.i):=HP7.out.1.cell 5
 have y5:W7.cell? ⟨(w.heap.size+1+1+1),5,none⟩=some (.string ⟨#[]⟩):=HZ.out.cell 5
 have f5:=HZ.out.free 5
 have x6:W7.cell? ⟨w.heap.size,6,none⟩=some (.int .i64 p.act.op):=HP7.out.1.cell 6
 have y6:W7.cell? ⟨(w.heap.size+1+1+1),6,none⟩=some (.int .i64 0):=HZ.out.cell 6
 have f6:=HZ.out.free 6
 have x7:W7.cell? ⟨w.heap.size,7,none⟩=some (.string p.act.ty):=HP7.out.1.cell 7
 have y7:W7.cell? ⟨(w.heap.size+1+1+1),7,none⟩=some (.string ⟨#[]⟩):=HZ.out.cell 7
 have f7:=HZ.out.free 7
 have x8:W7.cell? ⟨w.heap.size,8,none⟩=some (.string p.act.u.t):=HP7.out.1.cell 8
 have y8:W7.cell? ⟨(w.heap.size+1+1+1),8,none⟩=some (.string ⟨#[]⟩):=HZ.out.cell 8
 have f8:=HZ.out.free 8
 have x9:W7.cell? ⟨w.heap.size,9,none⟩=some (.string p.act.u.i):=HP7.out.1.cell 9
 have y9:W7.cell? ⟨(w.heap.size+1+1+1),9,none⟩=some (.string ⟨#[]⟩):=HZ.out.cell 9
 have f9:=HZ.out.free 9
 have x10:W7.cell? ⟨w.heap.size,10,none⟩=some (.int .i64 U.op):=HP7.out.1.cell 10
 have y10:W7.cell? ⟨(w.heap.size+1+1+1),10,none⟩=some (.int .i64 0):=HZ.out.cell 10
 have f10:=HZ.out.free 10
 have x11:W7.cell? ⟨w.heap.size,11,none⟩=some (.string U.ty):=HP7.out.1.cell 11
 have y11:W7.cell? ⟨(w.heap.size+1+1+1),11,none⟩=some (.string ⟨#[]⟩):=HZ.out.cell 11
 have f11:=HZ.out.free 11
 have x12:W7.cell? ⟨w.heap.size,12,none⟩=some (.string U.u.t):=HP7.out.1.cell 12
 have y12:W7.cell? ⟨(w.heap.size+1+1+1),12,none⟩=some (.string ⟨#[]⟩):=HZ.out.cell 12
 have f12:=HZ.out.free 12
 have x13:W7.cell? ⟨w.heap.size,13,none⟩=some (.string U.u.i):=HP7.out.1.cell 13
 have y13:W7.cell? ⟨(w.heap.size+1+1+1),13,none⟩=some (.string ⟨#[]⟩):=HZ.out.cell 13
 have f13:=HZ.out.free 13
 have x14:W7.cell? ⟨w.heap.size,14,none⟩=some (.slice q p.cs.length c):=HP7.out.1.cell 14
 have y14:W7.cell? ⟨(w.heap.size+1+1+1),14,none⟩=some (.slice none 0 0):=HZ.out.cell 14
 have f14:=HZ.out.free 14
 clear HP4 HP5 HP6 HP7 HSS sW5 sW6 sW7 sw4
 go_wp2
 obtain⟨Y,hY⟩:∃Y,Y=(((((((((((((((W7).setCell ⟨(w.heap.size+1+1+1),0,none⟩ (.string p.nm)).setCell ⟨(w.heap.size+1+1+1),1,none⟩ (.bool p.fb)).setCell ⟨(w.heap.size+1+1+1),2,none⟩ (.int .i64 S.op)).setCell ⟨(w.heap.size+1+1+1),3,none⟩ (.string S.ty)).setCell ⟨(w.heap.size+1+1+1),4,none⟩ (.string S.u.t)).setCell ⟨(w.heap.size+1+1+1),5,none⟩ (.string S.u.i)).setCell ⟨(w.heap.size+1+1+1),6,none⟩ (.int .i64 p.act.op)).setCell ⟨(w.heap.size+1+1+1),7,none⟩ (.string p.act.ty)).setCell ⟨(w.heap.size+1+1+1),8,none⟩ (.string p.act.u.t)).setCell ⟨(w.heap.size+1+1+1),9,none⟩ (.string p.act.u.i)).setCell ⟨(w.heap.size+1+1+1),10,none⟩ (.int .i64 U.op)).setCell ⟨(w.heap.size+1+1+1),11,none⟩ (.string U.ty)).setCell ⟨(w.heap.size+1+1+1),12,none⟩ (.string U.u.t)).setCell ⟨(w.heap.size+1+1+1),13,none⟩ (.string U.u.i)).setCell ⟨(w.heap.size+1+1+1),14,none⟩ (.slice q p.cs.length c):=⟨_,rfl⟩
 rw[←hY]
 obtain⟨hbY,hkY⟩:Blk Y (w.heap.size+1+1+1) #[.string p.nm,.bool p.fb,.int .i64 S.op,.string S.ty,.string S.u.t,.string S.u.i,.int .i64 p.act.op,.string p.act.ty,.string p.act.u.t,.string p.act.u.i,.int .i64 U.op,.string U.ty,.string U.u.t,.string U.u.i,.slice q p.cs.length c] 29∧Keep (fun x=>x=(w.heap.size+1+1+1)) W7 Y:=by rw[hY];exact⟨lk_cells15 HZ.out (.string p.nm) (.bool p.fb) (.int .i64 S.op) (.string S.ty) (.string S.u.t) (.string S.u.i) (.int .i64 p.act.op) (.string p.act.ty) (.string p.act.u.t) (.string p.act.u.i) (.int .i64 U.op) (.string U.ty) (.string U.u.t) (.string U.u.i) (.slice q p.cs.length c),lk_keep15 _ _ _ _ _ _ _ _ _ _ _ _ _ _ _ _ _⟩
 have HBY:Hid (Below w.heap.size w Y):=(hb7).trans (hkY.below (hb7).size (fun a e=>by have h2:a=(w.heap.size+1+1+1):=e;omega))
 have HKY:Hid (Keep (fun x=>x=(w.heap.size+1+1+1)) W7 Y):=hkY
 clear hY hkY
 have z0:=hbY.cell 0
 have z1:=hbY.cell 1
 have z2:=hbY.cell 2
 have z3:=hbY.cell 3
 have z4:=hbY.cell 4
 have z5:=hbY.cell 5
 have z6:=hbY.cell 6
 have z7:=hbY.cell 7
 have z8:=hbY.cell 8
 have z9:=hbY.cell 9
 have z10:=hbY.cell 10
 have z11:=hbY.cell 11
 have z12:=hbY.cell 12
 have z13:=hbY.cell 13
 have z14:=hbY.cell 14
 simp only[List.getElem?_toArray,List.getElem?_cons_zero,List.getElem?_cons_succ]at z0 z1 z2 z3 z4 z5 z6 z7 z8 z9 z10 z11 z12 z13 z14
 refine bodyPost_ret (v:=.tuple #[.agg #[.string p.nm,.bool p.fb,.int .i64 S.op,.string S.ty,.string S.u.t,.string S.u.i,.int .i64 p.act.op,.string p.act.ty,.string p.act.u.t,.string p.act.u.i,.int .i64 U.op,.string U.ty,.string U.u.t,.string U.u.i,.slice q p.cs.length c],.nilIface]) (by simp[results,Tryz.results5,go_sem,z0,z1,z2,z3,z4,z5,z6,z7,z8,z9,z10,z11,z12,z13,z14]) rfl ⟨?_,HBY.out⟩
 exact HR.out _ _ _ (HC7.out.keep HKY.out (fun g e ht=>by have h2:g=w.heap.size+1+1+1:=e;subst h2;exact ht.ne ⟨_,_,HZ.out.blk⟩ (by decide) rfl) (fun g e ht=>by have h2:g=w.heap.size+1+1+1:=e;subst h2;exact ht.ne ⟨_,_,HZ.out.blk⟩ (by decide) rfl)) HCD.out.2.1 HCD.out.2.2
theorem link_any:
 Calls Tryz.prog 5 #[poV p pc cc,uiV who,uiV what] w fun e w'=>LkRet p who what w' e∧Below w.heap.size w w':=by
 by_cases h0:pof p=0
 · by_cases h1:fif p.who who=0
   · by_cases h2:fif p.what what=0
     · exact link_ok p pc cc who what w h hu hv h0 h1 h2
     · exact link_what p pc cc who what w h hu hv h0 h1 h2
   · exact link_who p pc cc who what w h hu hv h0 h1
 · exact link_bad p pc cc who what w h hu hv h0
end
theorem link_good {p:Po}{pc:Option Addr}{cc:Nat}{a b:Ui}{w:World}(h:PoA w p pc cc)(ha:UOk a)(hb:UOk b)(hl:lkf p a b=0):
 Calls Tryz.prog 5 #[poV p pc cc,uiV a,uiV b] w fun e w'=>(∃q c,e= .returned (.tuple #[poV (lkP p a b) q c,.nilIface])∧PoA w' (lkP p a b) q c)∧Below w.heap.size w w':=by
 refine(link_any p pc cc a b w h ha hb).mono ?_
 rintro e w' ⟨h1,h2⟩
 unfold LkRet at h1
 rw[if_pos hl]at h1
 obtain⟨q,c,h3,h4,_⟩:=h1
 exact⟨⟨q,c,h3,h4⟩,h2⟩
theorem link_wrong {p:Po}{pc:Option Addr}{cc:Nat}{a b:Ui}{w:World}(h:PoA w p pc cc)(ha:UOk a)(hb:UOk b){n:Int}(hl:lkf p a b=n)(hn:n≠0):
 Calls Tryz.prog 5 #[poV p pc cc,uiV a,uiV b] w fun e w'=>e= .returned (.tuple #[poZ,.iface 70 (.int .i64 n)])∧Below w.heap.size w w':=by
 subst hl
 refine(link_any p pc cc a b w h ha hb).mono ?_
 rintro e w' ⟨h1,h2⟩
 unfold LkRet at h1
 rw[if_neg hn,eV_not hn]at h1
 exact⟨h1,h2⟩
end Go.Proofs.YtlnhaajjoplafaaGreatDoor
