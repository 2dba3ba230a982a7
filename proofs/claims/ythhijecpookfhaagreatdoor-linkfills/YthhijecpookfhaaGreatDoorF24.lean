import Derived.Test.YthhijecpookfhaaGreatDoorF16
import Derived.Test.YthhijecpookfhaaGreatDoorF23
import Derived.Deep.RegionHeld
import Derived.Test.YthhijecpookfhaaGreatDoorF14
set_option linter.unusedVariables false
set_option maxHeartbeats 12000000
namespace Go.Proofs.YthhijecpookfhaaGreatDoor
open Go.RowKit
set_option linter.unusedSimpArgs false
set_option maxRecDepth 100000
theorem lk_cells15 {w:World}{T:Nat}{x0 x1 x2 x3 x4 x5 x6 x7 x8 x9 x10 x11 x12 x13 x14:Value}{ty:TypeId}(h:Blk w T #[x0,x1,x2,x3,x4,x5,x6,x7,x8,x9,x10,x11,x12,x13,x14] ty)(v0 v1 v2 v3 v4 v5 v6 v7 v8 v9 v10 v11 v12 v13 v14:Value):
 Blk ((((((((((((((((w).setCell ⟨T,0,none⟩ (v0)).setCell ⟨T,1,none⟩ (v1)).setCell ⟨T,2,none⟩ (v2)).setCell ⟨T,3,none⟩ (v3)).setCell ⟨T,4,none⟩ (v4)).setCell ⟨T,5,none⟩ (v5)).setCell ⟨T,6,none⟩ (v6)).setCell ⟨T,7,none⟩ (v7)).setCell ⟨T,8,none⟩ (v8)).setCell ⟨T,9,none⟩ (v9)).setCell ⟨T,10,none⟩ (v10)).setCell ⟨T,11,none⟩ (v11)).setCell ⟨T,12,none⟩ (v12)).setCell ⟨T,13,none⟩ (v13)).setCell ⟨T,14,none⟩ (v14)) T #[v0,v1,v2,v3,v4,v5,v6,v7,v8,v9,v10,v11,v12,v13,v14] ty:=by
 have h0:Blk ((w).setCell ⟨T,0,none⟩ (v0)) T #[v0,x1,x2,x3,x4,x5,x6,x7,x8,x9,x10,x11,x12,x13,x14] ty:=(h.set rfl).1
 have h1:Blk (((w).setCell ⟨T,0,none⟩ (v0)).setCell ⟨T,1,none⟩ (v1)) T #[v0,v1,x2,x3,x4,x5,x6,x7,x8,x9,x10,x11,x12,x13,x14] ty:=(h0.set rfl).1
 have h2:Blk ((((w).setCell ⟨T,0,none⟩ (v0)).setCell ⟨T,1,none⟩ (v1)).setCell ⟨T,2,none⟩ (v2)) T #[v0,v1,v2,x3,x4,x5,x6,x7,x8,x9,x10,x11,x12,x13,x14] ty:=(h1.set rfl).1
 have h3:Blk (((((w).setCell ⟨T,0,none⟩ (v0)).setCell ⟨T,1,none⟩ (v1)).setCell ⟨T,2,none⟩ (v2)).setCell ⟨T,3,none⟩ (v3)) T #[v0,v1,v2,v3,x4,x5,x6,x7,x8,x9,x10,x11,x12,x13,x14] ty:=(h2.set rfl).1
 have h4:Blk ((((((w).setCell ⟨T,0,none⟩ (v0)).setCell ⟨T,1,none⟩ (v1)).setCell ⟨T,2,none⟩ (v2)).setCell ⟨T,3,none⟩ (v3)).setCell ⟨T,4,none⟩ (v4)) T #[v0,v1,v2,v3,v4,x5,x6,x7,x8,x9,x10,x11,x12,x13,x14] ty:=(h3.set rfl).1
 have h5:Blk (((((((w).setCell ⟨T,0,none⟩ (v0)).setCell ⟨T,1,none⟩ (v1)).setCell ⟨T,2,none⟩ (v2)).setCell ⟨T,3,none⟩ (v3)).setCell ⟨T,4,none⟩ (v4)).setCell ⟨T,5,none⟩ (v5)) T #[v0,v1,v2,v3,v4,v5,x6,x7,x8,x9,x10,x11,x12,x13,x14] ty:=(h4.set rfl).1
 have h6:Blk ((((((((w).setCell ⟨T,0,none⟩ (v0)).setCell ⟨T,1,none⟩ (v1)).setCell ⟨T,2,none⟩ (v2)).setCell ⟨T,3,none⟩ (v3)).setCell ⟨T,4,none⟩ (v4)).setCell ⟨T,5,none⟩ (v5)).setCell ⟨T,6,none⟩ (v6)) T #[v0,v1,v2,v3,v4,v5,v6,x7,x8,x9,x10,x11,x12,x13,x14] ty:=(h5.set rfl).1
 have h7:Blk (((((((((w).setCell ⟨T,0,none⟩ (v0)).setCell ⟨T,1,none⟩ (v1)).setCell ⟨T,2,none⟩ (v2)).setCell ⟨T,3,none⟩ (v3)).setCell ⟨T,4,none⟩ (v4)).setCell ⟨T,5,none⟩ (v5)).setCell ⟨T,6,none⟩ (v6)).setCell ⟨T,7,none⟩ (v7)) T #[v0,v1,v2,v3,v4,v5,v6,v7,x8,x9,x10,x11,x12,x13,x14] ty:=(h6.set rfl).1
 have h8:Blk ((((((((((w).setCell ⟨T,0,none⟩ (v0)).setCell ⟨T,1,none⟩ (v1)).setCell ⟨T,2,none⟩ (v2)).setCell ⟨T,3,none⟩ (v3)).setCell ⟨T,4,none⟩ (v4)).setCell ⟨T,5,none⟩ (v5)).setCell ⟨T,6,none⟩ (v6)).setCell ⟨T,7,none⟩ (v7)).setCell ⟨T,8,none⟩ (v8)) T #[v0,v1,v2,v3,v4,v5,v6,v7,v8,x9,x10,x11,x12,x13,x14] ty:=(h7.set rfl).1
 have h9:Blk (((((((((((w).setCell ⟨T,0,none⟩ (v0)).setCell ⟨T,1,none⟩ (v1)).setCell ⟨T,2,none⟩ (v2)).setCell ⟨T,3,none⟩ (v3)).setCell ⟨T,4,none⟩ (v4)).setCell ⟨T,5,none⟩ (v5)).setCell ⟨T,6,none⟩ (v6)).setCell ⟨T,7,none⟩ (v7)).setCell ⟨T,8,none⟩ (v8)).setCell ⟨T,9,none⟩ (v9)) T #[v0,v1,v2,v3,v4,v5,v6,v7,v8,v9,x10,x11,x12,x13,x14] ty:=(h8.set rfl).1
 have h10:Blk ((((((((((((w).setCell ⟨T,0,none⟩ (v0)).setCell ⟨T,1,none⟩ (v1)).setCell ⟨T,2,none⟩ (v2)).setCell ⟨T,3,none⟩ (v3)).setCell ⟨T,4,none⟩ (v4)).setCell ⟨T,5,none⟩ (v5)).setCell ⟨T,6,none⟩ (v6)).setCell ⟨T,7,none⟩ (v7)).setCell ⟨T,8,none⟩ (v8)).setCell ⟨T,9,none⟩ (v9)).setCell ⟨T,10,none⟩ (v10)) T #[v0,v1,v2,v3,v4,v5,v6,v7,v8,v9,v10,x11,x12,x13,x14] ty:=(h9.set rfl).1
 have h11:Blk (((((((((((((w).setCell ⟨T,0,none⟩ (v0)).setCell ⟨T,1,none⟩ (v1)).setCell ⟨T,2,none⟩ (v2)).setCell ⟨T,3,none⟩ (v3)).setCell ⟨T,4,none⟩ (v4)).setCell ⟨T,5,none⟩ (v5)).setCell ⟨T,6,none⟩ (v6)).setCell ⟨T,7,none⟩ (v7)).setCell ⟨T,8,none⟩ (v8)).setCell ⟨T,9,none⟩ (v9)).setCell ⟨T,10,none⟩ (v10)).setCell ⟨T,11,none⟩ (v11)) T #[v0,v1,v2,v3,v4,v5,v6,v7,v8,v9,v10,v11,x12,x13,x14] ty:=(h10.set rfl).1
 have h12:Blk ((((((((((((((w).setCell ⟨T,0,none⟩ (v0)).setCell ⟨T,1,none⟩ (v1)).setCell ⟨T,2,none⟩ (v2)).setCell ⟨T,3,none⟩ (v3)).setCell ⟨T,4,none⟩ (v4)).setCell ⟨T,5,none⟩ (v5)).setCell ⟨T,6,none⟩ (v6)).setCell ⟨T,7,none⟩ (v7)).setCell ⟨T,8,none⟩ (v8)).setCell ⟨T,9,none⟩ (v9)).setCell ⟨T,10,none⟩ (v10)).setCell ⟨T,11,none⟩ (v11)).setCell ⟨T,12,none⟩ (v12)) T #[v0,v1,v2,v3,v4,v5,v6,v7,v8,v9,v10,v11,v12,x13,x14] ty:=(h11.set rfl).1
 have h13:Blk (((((((((((((((w).setCell ⟨T,0,none⟩ (v0)).setCell ⟨T,1,none⟩ (v1)).setCell ⟨T,2,none⟩ (v2)).setCell ⟨T,3,none⟩ (v3)).setCell ⟨T,4,none⟩ (v4)).setCell ⟨T,5,none⟩ (v5)).setCell ⟨T,6,none⟩ (v6)).setCell ⟨T,7,none⟩ (v7)).setCell ⟨T,8,none⟩ (v8)).setCell ⟨T,9,none⟩ (v9)).setCell ⟨T,10,none⟩ (v10)).setCell ⟨T,11,none⟩ (v11)).setCell ⟨T,12,none⟩ (v12)).setCell ⟨T,13,none⟩ (v13)) T #[v0,v1,v2,v3,v4,v5,v6,v7,v8,v9,v10,v11,v12,v13,x14] ty:=(h12.set rfl).1
 have h14:Blk ((((((((((((((((w).setCell ⟨T,0,none⟩ (v0)).setCell ⟨T,1,none⟩ (v1)).setCell ⟨T,2,none⟩ (v2)).setCell ⟨T,3,none⟩ (v3)).setCell ⟨T,4,none⟩ (v4)).setCell ⟨T,5,none⟩ (v5)).setCell ⟨T,6,none⟩ (v6)).setCell ⟨T,7,none⟩ (v7)).setCell ⟨T,8,none⟩ (v8)).setCell ⟨T,9,none⟩ (v9)).setCell ⟨T,10,none⟩ (v10)).setCell ⟨T,11,none⟩ (v11)).setCell ⟨T,12,none⟩ (v12)).setCell ⟨T,13,none⟩ (v13)).setCell ⟨T,14,none⟩ (v14)) T #[v0,v1,v2,v3,v4,v5,v6,v7,v8,v9,v10,v11,v12,v13,v14] ty:=(h13.set rfl).1
 exact h14
theorem lk_keep15 (w:World)(T:Nat)(v0 v1 v2 v3 v4 v5 v6 v7 v8 v9 v10 v11 v12 v13 v14:Value):Keep (fun x=>x=T) w ((((((((((((((((w).setCell ⟨T,0,none⟩ (v0)).setCell ⟨T,1,none⟩ (v1)).setCell ⟨T,2,none⟩ (v2)).setCell ⟨T,3,none⟩ (v3)).setCell ⟨T,4,none⟩ (v4)).setCell ⟨T,5,none⟩ (v5)).setCell ⟨T,6,none⟩ (v6)).setCell ⟨T,7,none⟩ (v7)).setCell ⟨T,8,none⟩ (v8)).setCell ⟨T,9,none⟩ (v9)).setCell ⟨T,10,none⟩ (v10)).setCell ⟨T,11,none⟩ (v11)).setCell ⟨T,12,none⟩ (v12)).setCell ⟨T,13,none⟩ (v13)).setCell ⟨T,14,none⟩ (v14)):=by
 exact(Keep.trans (Keep.trans (Keep.trans (Keep.trans (Keep.trans (Keep.trans (Keep.trans (Keep.trans (Keep.trans (Keep.trans (Keep.trans (Keep.trans (Keep.trans (Keep.trans (keep_set w T 0 v0) (keep_set _ T 1 v1) (fun _ e=>.inl e)) (keep_set _ T 2 v2) (fun _ e=>.inl e)) (keep_set _ T 3 v3) (fun _ e=>.inl e)) (keep_set _ T 4 v4) (fun _ e=>.inl e)) (keep_set _ T 5 v5) (fun _ e=>.inl e)) (keep_set _ T 6 v6) (fun _ e=>.inl e)) (keep_set _ T 7 v7) (fun _ e=>.inl e)) (keep_set _ T 8 v8) (fun _ e=>.inl e)) (keep_set _ T 9 v9) (fun _ e=>.inl e)) (keep_set _ T 10 v10) (fun _ e=>.inl e)) (keep_set _ T 11 v11) (fun _ e=>.inl e)) (keep_set _ T 12 v12) (fun _ e=>.inl e)) (keep_set _ T 13 v13) (fun _ e=>.inl e)) (keep_set _ T 14 v14) (fun _ e=>.inl e))
theorem lk_cells9 {w:World}{T:Nat}{p:Po}{pc:Option Addr}{cc:Nat}{ty:TypeId}(h:Blk w T #[.string p.nm,.bool p.fb,.int .i64 p.who.op,.string p.who.ty,.string p.who.u.t,.string p.who.u.i,.int .i64 p.act.op,.string p.act.ty,.string p.act.u.t,.string p.act.u.i,.int .i64 p.what.op,.string p.what.ty,.string p.what.u.t,.string p.what.u.i,.slice pc p.cs.length cc] ty)(S U:Sco)(q:Option Addr)(c:Nat):
 Blk ((((((((((w).setCell ⟨T,2,none⟩ (.int .i64 S.op)).setCell ⟨T,3,none⟩ (.string S.ty)).setCell ⟨T,4,none⟩ (.string S.u.t)).setCell ⟨T,5,none⟩ (.string S.u.i)).setCell ⟨T,10,none⟩ (.int .i64 U.op)).setCell ⟨T,11,none⟩ (.string U.ty)).setCell ⟨T,12,none⟩ (.string U.u.t)).setCell ⟨T,13,none⟩ (.string U.u.i)).setCell ⟨T,14,none⟩ (.slice q p.cs.length c)) T #[.string p.nm,.bool p.fb,.int .i64 S.op,.string S.ty,.string S.u.t,.string S.u.i,.int .i64 p.act.op,.string p.act.ty,.string p.act.u.t,.string p.act.u.i,.int .i64 U.op,.string U.ty,.string U.u.t,.string U.u.i,.slice q p.cs.length c] ty:=by
 have h0:Blk ((w).setCell ⟨T,2,none⟩ (.int .i64 S.op)) T #[.string p.nm,.bool p.fb,.int .i64 S.op,.string p.who.ty,.string p.who.u.t,.string p.who.u.i,.int .i64 p.act.op,.string p.act.ty,.string p.act.u.t,.string p.act.u.i,.int .i64 p.what.op,.string p.what.ty,.string p.what.u.t,.string p.what.u.i,.slice pc p.cs.length cc] ty:=(h.set rfl).1
 have h1:Blk (((w).setCell ⟨T,2,none⟩ (.int .i64 S.op)).setCell ⟨T,3,none⟩ (.string S.ty)) T #[.string p.nm,.bool p.fb,.int .i64 S.op,.string S.ty,.string p.who.u.t,.string p.who.u.i,.int .i64 p.act.op,.string p.act.ty,.string p.act.u.t,.string p.act.u.i,.int .i64 p.what.op,.string p.what.ty,.string p.what.u.t,.string p.what.u.i,.slice pc p.cs.length cc] ty:=(h0.set rfl).1
 have h2:Blk ((((w).setCell ⟨T,2,none⟩ (.int .i64 S.op)).setCell ⟨T,3,none⟩ (.string S.ty)).setCell ⟨T,4,none⟩ (.string S.u.t)) T #[.string p.nm,.bool p.fb,.int .i64 S.op,.string S.ty,.string S.u.t,.string p.who.u.i,.int .i64 p.act.op,.string p.act.ty,.string p.act.u.t,.string p.act.u.i,.int .i64 p.what.op,.string p.what.ty,.string p.what.u.t,.string p.what.u.i,.slice pc p.cs.length cc] ty:=(h1.set rfl).1
 have h3:Blk (((((w).setCell ⟨T,2,none⟩ (.int .i64 S.op)).setCell ⟨T,3,none⟩ (.string S.ty)).setCell ⟨T,4,none⟩ (.string S.u.t)).setCell ⟨T,5,none⟩ (.string S.u.i)) T #[.string p.nm,.bool p.fb,.int .i64 S.op,.string S.ty,.string S.u.t,.string S.u.i,.int .i64 p.act.op,.string p.act.ty,.string p.act.u.t,.string p.act.u.i,.int .i64 p.what.op,.string p.what.ty,.string p.what.u.t,.string p.what.u.i,.slice pc p.cs.length cc] ty:=(h2.set rfl).1
 have h4:Blk ((((((w).setCell ⟨T,2,none⟩ (.int .i64 S.op)).setCell ⟨T,3,none⟩ (.string S.ty)).setCell ⟨T,4,none⟩ (.string S.u.t)).setCell ⟨T,5,none⟩ (.string S.u.i)).setCell ⟨T,10,none⟩ (.int .i64 U.op)) T #[.string p.nm,.bool p.fb,.int .i64 S.op,.string S.ty,.string S.u.t,.string S.u.i,.int .i64 p.act.op,.string p.act.ty,.string p.act.u.t,.string p.act.u.i,.int .i64 U.op,.string p.what.ty,.string p.what.u.t,.string p.what.u.i,.slice pc p.cs.length cc] ty:=(h3.set rfl).1
 have h5:Blk (((((((w).setCell ⟨T,2,none⟩ (.int .i64 S.op)).setCell ⟨T,3,none⟩ (.string S.ty)).setCell ⟨T,4,none⟩ (.string S.u.t)).setCell ⟨T,5,none⟩ (.string S.u.i)).setCell ⟨T,10,none⟩ (.int .i64 U.op)).setCell ⟨T,11,none⟩ (.string U.ty)) T #[.string p.nm,.bool p.fb,.int .i64 S.op,.string S.ty,.string S.u.t,.string S.u.i,.int .i64 p.act.op,.string p.act.ty,.string p.act.u.t,.string p.act.u.i,.int .i64 U.op,.string U.ty,.string p.what.u.t,.string p.what.u.i,.slice pc p.cs.length cc] ty:=(h4.set rfl).1
 have h6:Blk ((((((((w).setCell ⟨T,2,none⟩ (.int .i64 S.op)).setCell ⟨T,3,none⟩ (.string S.ty)).setCell ⟨T,4,none⟩ (.string S.u.t)).setCell ⟨T,5,none⟩ (.string S.u.i)).setCell ⟨T,10,none⟩ (.int .i64 U.op)).setCell ⟨T,11,none⟩ (.string U.ty)).setCell ⟨T,12,none⟩ (.string U.u.t)) T #[.string p.nm,.bool p.fb,.int .i64 S.op,.string S.ty,.string S.u.t,.string S.u.i,.int .i64 p.act.op,.string p.act.ty,.string p.act.u.t,.string p.act.u.i,.int .i64 U.op,.string U.ty,.string U.u.t,.string p.what.u.i,.slice pc p.cs.length cc] ty:=(h5.set rfl).1
 have h7:Blk (((((((((w).setCell ⟨T,2,none⟩ (.int .i64 S.op)).setCell ⟨T,3,none⟩ (.string S.ty)).setCell ⟨T,4,none⟩ (.string S.u.t)).setCell ⟨T,5,none⟩ (.string S.u.i)).setCell ⟨T,10,none⟩ (.int .i64 U.op)).setCell ⟨T,11,none⟩ (.string U.ty)).setCell ⟨T,12,none⟩ (.string U.u.t)).setCell ⟨T,13,none⟩ (.string U.u.i)) T #[.string p.nm,.bool p.fb,.int .i64 S.op,.string S.ty,.string S.u.t,.string S.u.i,.int .i64 p.act.op,.string p.act.ty,.string p.act.u.t,.string p.act.u.i,.int .i64 U.op,.string U.ty,.string U.u.t,.string U.u.i,.slice pc p.cs.length cc] ty:=(h6.set rfl).1
 have h8:Blk ((((((((((w).setCell ⟨T,2,none⟩ (.int .i64 S.op)).setCell ⟨T,3,none⟩ (.string S.ty)).setCell ⟨T,4,none⟩ (.string S.u.t)).setCell ⟨T,5,none⟩ (.string S.u.i)).setCell ⟨T,10,none⟩ (.int .i64 U.op)).setCell ⟨T,11,none⟩ (.string U.ty)).setCell ⟨T,12,none⟩ (.string U.u.t)).setCell ⟨T,13,none⟩ (.string U.u.i)).setCell ⟨T,14,none⟩ (.slice q p.cs.length c)) T #[.string p.nm,.bool p.fb,.int .i64 S.op,.string S.ty,.string S.u.t,.string S.u.i,.int .i64 p.act.op,.string p.act.ty,.string p.act.u.t,.string p.act.u.i,.int .i64 U.op,.string U.ty,.string U.u.t,.string U.u.i,.slice q p.cs.length c] ty:=(h7.set rfl).1
 exact h8
theorem lk_keep9 {w:World}{T:Nat}{p:Po}(S U:Sco)(q:Option Addr)(c:Nat):Keep (fun x=>x=T) w ((((((((((w).setCell ⟨T,2,none⟩ (.int .i64 S.op)).setCell ⟨T,3,none⟩ (.string S.ty)).setCell ⟨T,4,none⟩ (.string S.u.t)).setCell ⟨T,5,none⟩ (.string S.u.i)).setCell ⟨T,10,none⟩ (.int .i64 U.op)).setCell ⟨T,11,none⟩ (.string U.ty)).setCell ⟨T,12,none⟩ (.string U.u.t)).setCell ⟨T,13,none⟩ (.string U.u.i)).setCell ⟨T,14,none⟩ (.slice q p.cs.length c)):=by
 exact(Keep.trans (Keep.trans (Keep.trans (Keep.trans (Keep.trans (Keep.trans (Keep.trans (Keep.trans (keep_set w T 2 _) (keep_set _ T 3 _) (fun _ e=>.inl e)) (keep_set _ T 4 _) (fun _ e=>.inl e)) (keep_set _ T 5 _) (fun _ e=>.inl e)) (keep_set _ T 10 _) (fun _ e=>.inl e)) (keep_set _ T 11 _) (fun _ e=>.inl e)) (keep_set _ T 12 _) (fun _ e=>.inl e)) (keep_set _ T 13 _) (fun _ e=>.inl e)) (keep_set _ T 14 _) (fun _ e=>.inl e))
theorem cell_far (w:World){b a:Nat}(h:¬b=a)(o j:Nat)(v:Value):(w.setCell ⟨b,o,none⟩ v).cell? ⟨a,j,none⟩=w.cell? ⟨a,j,none⟩:=World.cell?_setCell_far w ⟨b,o,none⟩ ⟨a,j,none⟩ v h
theorem fil_sok {s:Sco}{u:Ui}(h:ScoOk s)(k:UOk u):ScoOk (fil s u):=by
 unfold fil
 split
 · exact⟨Nat.zero_le _,k⟩
 · split
   · exact⟨Nat.zero_le _,k⟩
   · exact h
def poZ:Value:=.agg #[.string ⟨#[]⟩,.bool false,.int .i64 0,.string ⟨#[]⟩,.string ⟨#[]⟩,.string ⟨#[]⟩,.int .i64 0,.string ⟨#[]⟩,.string ⟨#[]⟩,.string ⟨#[]⟩,.int .i64 0,.string ⟨#[]⟩,.string ⟨#[]⟩,.string ⟨#[]⟩,.slice none 0 0]
def LkRet (p:Po)(who what:Ui)(w':World)(e:Ending):Prop:=
 if lkf p who what=0 then ∃q c,e= .returned (.tuple #[poV (lkP p who what) q c,.nilIface])∧PoA w' (lkP p who what) q c∧CdLT w' q p.cs else e= .returned (.tuple #[poZ,eV (lkf p who what)])
section
variable (p:Po) (pc:Option Addr) (cc:Nat) (who what:Ui) (w:World) (h:PoA w p pc cc) (hu:UOk who) (hv:UOk what)
include h hu hv
theorem link_bad (hn:pof p≠0):
 Calls Tryz.prog 10 #[poV p pc cc,uiV who,uiV what] w fun e w'=>LkRet p who what w' e∧Below w.heap.size w w':=by
 obtain⟨V,hV⟩:∃V,V=(((w.alloc (.cells (poC p pc cc) 28)).alloc (.cells #[.string who.t,.string who.i] 23)).alloc (.cells #[.string what.t,.string what.i] 23)).alloc (.cells #[.string ⟨#[]⟩,.bool false,.int .i64 0,.string ⟨#[]⟩,.string ⟨#[]⟩,.string ⟨#[]⟩,.int .i64 0,.string ⟨#[]⟩,.string ⟨#[]⟩,.string ⟨#[]⟩,.int .i64 0,.string ⟨#[]⟩,.string ⟨#[]⟩,.string ⟨#[]⟩,.slice none 0 0] 28):=⟨_,rfl⟩
 have hbV:Below w.heap.size w V:=by rw[hV];exact kqx
 have HA:Hid (∀W,Below V.heap.size V W→Blk W w.heap.size (poC p pc cc) 28∧Blk W (w.heap.size+1) #[.string who.t,.string who.i] 23∧Blk W (w.heap.size+1+1) #[.string what.t,.string what.i] 23∧Blk W (w.heap.size+1+1+1) #[.string ⟨#[]⟩,.bool false,.int .i64 0,.string ⟨#[]⟩,.string ⟨#[]⟩,.string ⟨#[]⟩,.int .i64 0,.string ⟨#[]⟩,.string ⟨#[]⟩,.string ⟨#[]⟩,.int .i64 0,.string ⟨#[]⟩,.string ⟨#[]⟩,.string ⟨#[]⟩,.slice none 0 0] 28):=fun W hW=>by
  have h1:Blk V w.heap.size (poC p pc cc) 28:=by rw[hV];exact(((Blk.new w _ _ rfl).up kqx).up kqx).up kqx
  have h2:Blk V (w.heap.size+1) #[.string who.t,.string who.i] 23:=by rw[hV];refine((Blk.new (w.alloc _) _ _ ?_).up kqx).up kqx;simp
  have h3:Blk V (w.heap.size+1+1) #[.string what.t,.string what.i] 23:=by rw[hV];refine(Blk.new ((w.alloc _).alloc _) _ _ ?_).up kqx;simp
  have h4:Blk V (w.heap.size+1+1+1) #[.string ⟨#[]⟩,.bool false,.int .i64 0,.string ⟨#[]⟩,.string ⟨#[]⟩,.string ⟨#[]⟩,.int .i64 0,.string ⟨#[]⟩,.string ⟨#[]⟩,.string ⟨#[]⟩,.int .i64 0,.string ⟨#[]⟩,.string ⟨#[]⟩,.string ⟨#[]⟩,.slice none 0 0] 28:=by rw[hV];refine Blk.new (((w.alloc _).alloc _).alloc _) _ _ ?_;simp
  exact⟨h1.up hW,h2.up hW,h3.up hW,h4.up hW⟩
 have hltV:w.heap.size+1+1+1<V.heap.size:=(HA.out V (Below.refl _ _)).2.2.2.lt
 have HC:=fun W (hW:Below V.heap.size V W)=>pcheck_any p pc cc W ((h.up hbV).up hW)
 have HF1:=fun W=>filled_any p.who who W hu
 have HF2:=fun W=>filled_any p.what what W hv
 have HR:Hid (∀W,LkRet p who what W (.returned (.tuple #[poZ,.iface 35 (.int .i64 (pof p))]))):=fun W=>by
  have hl:lkf p who what=pof p:=by unfold lkf;rw[if_neg hn]
  show LkRet _ _ _ _ _
  unfold LkRet
  rw[hl,if_neg hn,eV_not hn]
 rw[eV_not hn]at HC
 generalize pof p=n at *
 clear hn h hu hv HF1 HF2
 unfold poC at hV
 unfold poV uiV at *
 try unfold scV at *
 go_enter Tryz.func10,Tryz.ntmps10
 go_wp2_with fail
 rw[←hV]
 clear hV
 refine(HC _ (Below.refl _ _)).mono ?_
 rintro _ w1 ⟨rfl,hb1⟩
 clear HC
 obtain⟨hB0,hB1,hB2,hB3⟩:=HA.out w1 hb1
 have HZ:Hid (Blk w1 (w.heap.size+1+1+1) #[.string ⟨#[]⟩,.bool false,.int .i64 0,.string ⟨#[]⟩,.string ⟨#[]⟩,.string ⟨#[]⟩,.int .i64 0,.string ⟨#[]⟩,.string ⟨#[]⟩,.string ⟨#[]⟩,.int .i64 0,.string ⟨#[]⟩,.string ⟨#[]⟩,.string ⟨#[]⟩,.slice none 0 0] 28):=hB3
 have y0:=hB3.cell 0
 have f0:=hB3.free 0
 have y1:=hB3.cell 1
 have f1:=hB3.free 1
 have y2:=hB3.cell 2
 have f2:=hB3.free 2
 have y3:=hB3.cell 3
 have f3:=hB3.free 3
 have y4:=hB3.cell 4
 have f4:=hB3.free 4
 have y5:=hB3.cell 5
 have f5:=hB3.free 5
 have y6:=hB3.cell 6
 have f6:=hB3.free 6
 have y7:=hB3.cell 7
 have f7:=hB3.free 7
 have y8:=hB3.cell 8
 have f8:=hB3.free 8
 have y9:=hB3.cell 9
 have f9:=hB3.free 9
 have y10:=hB3.cell 10
 have f10:=hB3.free 10
 have y11:=hB3.cell 11
 have f11:=hB3.free 11
 have y12:=hB3.cell 12
 have f12:=hB3.free 12
 have y13:=hB3.cell 13
 have f13:=hB3.free 13
 have y14:=hB3.cell 14
 have f14:=hB3.free 14
 simp only[List.getElem?_toArray,List.getElem?_cons_zero,List.getElem?_cons_succ]at y0 y1 y2 y3 y4 y5 y6 y7 y8 y9 y10 y11 y12 y13 y14
 clear HA hB0 hB1 hB2 hB3
 go_wp2
 obtain⟨Y,hY⟩:∃Y,Y=(((((((((((((((w1).setCell ⟨(w.heap.size+1+1+1),0,none⟩ (.string ⟨#[]⟩)).setCell ⟨(w.heap.size+1+1+1),1,none⟩ (.bool false)).setCell ⟨(w.heap.size+1+1+1),2,none⟩ (.int .i64 0)).setCell ⟨(w.heap.size+1+1+1),3,none⟩ (.string ⟨#[]⟩)).setCell ⟨(w.heap.size+1+1+1),4,none⟩ (.string ⟨#[]⟩)).setCell ⟨(w.heap.size+1+1+1),5,none⟩ (.string ⟨#[]⟩)).setCell ⟨(w.heap.size+1+1+1),6,none⟩ (.int .i64 0)).setCell ⟨(w.heap.size+1+1+1),7,none⟩ (.string ⟨#[]⟩)).setCell ⟨(w.heap.size+1+1+1),8,none⟩ (.string ⟨#[]⟩)).setCell ⟨(w.heap.size+1+1+1),9,none⟩ (.string ⟨#[]⟩)).setCell ⟨(w.heap.size+1+1+1),10,none⟩ (.int .i64 0)).setCell ⟨(w.heap.size+1+1+1),11,none⟩ (.string ⟨#[]⟩)).setCell ⟨(w.heap.size+1+1+1),12,none⟩ (.string ⟨#[]⟩)).setCell ⟨(w.heap.size+1+1+1),13,none⟩ (.string ⟨#[]⟩)).setCell ⟨(w.heap.size+1+1+1),14,none⟩ (.slice none 0 0):=⟨_,rfl⟩
 rw[←hY]
 obtain⟨hbY,hkY⟩:Blk Y (w.heap.size+1+1+1) #[.string ⟨#[]⟩,.bool false,.int .i64 0,.string ⟨#[]⟩,.string ⟨#[]⟩,.string ⟨#[]⟩,.int .i64 0,.string ⟨#[]⟩,.string ⟨#[]⟩,.string ⟨#[]⟩,.int .i64 0,.string ⟨#[]⟩,.string ⟨#[]⟩,.string ⟨#[]⟩,.slice none 0 0] 28∧Keep (fun x=>x=(w.heap.size+1+1+1)) w1 Y:=by rw[hY];exact⟨lk_cells15 HZ.out (.string ⟨#[]⟩) (.bool false) (.int .i64 0) (.string ⟨#[]⟩) (.string ⟨#[]⟩) (.string ⟨#[]⟩) (.int .i64 0) (.string ⟨#[]⟩) (.string ⟨#[]⟩) (.string ⟨#[]⟩) (.int .i64 0) (.string ⟨#[]⟩) (.string ⟨#[]⟩) (.string ⟨#[]⟩) (.slice none 0 0),lk_keep15 _ _ _ _ _ _ _ _ _ _ _ _ _ _ _ _ _⟩
 have HBY:Hid (Below w.heap.size w Y):=((kqt hbV hb1)).trans (hkY.below ((kqt hbV hb1)).size (fun a e=>by have h2:a=(w.heap.size+1+1+1):=e;omega))
 have HKY:Hid (Keep (fun x=>x=(w.heap.size+1+1+1)) w1 Y):=hkY
 clear hY hkY
 have z0:=hbY.cell 0
 have z1:=hbY.cell 1
 have z2:=hbY.cell 2
 have z3:=hbY.cell 3
 have z4:=hbY.cell 4
 have z5:=hbY.cell 5
 have z6:=hbY.cell 6
 have z7:=hbY.cell 7
 have z8:=hbY.cell 8
 have z9:=hbY.cell 9
 have z10:=hbY.cell 10
 have z11:=hbY.cell 11
 have z12:=hbY.cell 12
 have z13:=hbY.cell 13
 have z14:=hbY.cell 14
 simp only[List.getElem?_toArray,List.getElem?_cons_zero,List.getElem?_cons_succ]at z0 z1 z2 z3 z4 z5 z6 z7 z8 z9 z10 z11 z12 z13 z14
 refine bodyPost_ret (v:=.tuple #[.agg #[.string ⟨#[]⟩,.bool false,.int .i64 0,.string ⟨#[]⟩,.string ⟨#[]⟩,.string ⟨#[]⟩,.int .i64 0,.string ⟨#[]⟩,.string ⟨#[]⟩,.string ⟨#[]⟩,.int .i64 0,.string ⟨#[]⟩,.string ⟨#[]⟩,.string ⟨#[]⟩,.slice none 0 0],.iface 35 (.int .i64 n)]) (by simp[results,Tryz.results10,go_sem,z0,z1,z2,z3,z4,z5,z6,z7,z8,z9,z10,z11,z12,z13,z14]) rfl ⟨?_,HBY.out⟩
 exact HR.out _
theorem link_who (h0:pof p=0)(hn:fif p.who who≠0):
 Calls Tryz.prog 10 #[poV p pc cc,uiV who,uiV what] w fun e w'=>LkRet p who what w' e∧Below w.heap.size w w':=by
 obtain⟨V,hV⟩:∃V,V=(((w.alloc (.cells (poC p pc cc) 28)).alloc (.cells #[.string who.t,.string who.i] 23)).alloc (.cells #[.string what.t,.string what.i] 23)).alloc (.cells #[.string ⟨#[]⟩,.bool false,.int .i64 0,.string ⟨#[]⟩,.string ⟨#[]⟩,.string ⟨#[]⟩,.int .i64 0,.string ⟨#[]⟩,.string ⟨#[]⟩,.string ⟨#[]⟩,.int .i64 0,.string ⟨#[]⟩,.string ⟨#[]⟩,.string ⟨#[]⟩,.slice none 0 0] 28):=⟨_,rfl⟩
 have hbV:Below w.heap.size w V:=by rw[hV];exact kqx
 have HA:Hid (∀W,Below V.heap.size V W→Blk W w.heap.size (poC p pc cc) 28∧Blk W (w.heap.size+1) #[.string who.t,.string who.i] 23∧Blk W (w.heap.size+1+1) #[.string what.t,.string what.i] 23∧Blk W (w.heap.size+1+1+1) #[.string ⟨#[]⟩,.bool false,.int .i64 0,.string ⟨#[]⟩,.string ⟨#[]⟩,.string ⟨#[]⟩,.int .i64 0,.string ⟨#[]⟩,.string ⟨#[]⟩,.string ⟨#[]⟩,.int .i64 0,.string ⟨#[]⟩,.string ⟨#[]⟩,.string ⟨#[]⟩,.slice none 0 0] 28):=fun W hW=>by
  have h1:Blk V w.heap.size (poC p pc cc) 28:=by rw[hV];exact(((Blk.new w _ _ rfl).up kqx).up kqx).up kqx
  have h2:Blk V (w.heap.size+1) #[.string who.t,.string who.i] 23:=by rw[hV];refine((Blk.new (w.alloc _) _ _ ?_).up kqx).up kqx;simp
  have h3:Blk V (w.heap.size+1+1) #[.string what.t,.string what.i] 23:=by rw[hV];refine(Blk.new ((w.alloc _).alloc _) _ _ ?_).up kqx;simp
  have h4:Blk V (w.heap.size+1+1+1) #[.string ⟨#[]⟩,.bool false,.int .i64 0,.string ⟨#[]⟩,.string ⟨#[]⟩,.string ⟨#[]⟩,.int .i64 0,.string ⟨#[]⟩,.string ⟨#[]⟩,.string ⟨#[]⟩,.int .i64 0,.string ⟨#[]⟩,.string ⟨#[]⟩,.string ⟨#[]⟩,.slice none 0 0] 28:=by rw[hV];refine Blk.new (((w.alloc _).alloc _).alloc _) _ _ ?_;simp
  exact⟨h1.up hW,h2.up hW,h3.up hW,h4.up hW⟩
 have hltV:w.heap.size+1+1+1<V.heap.size:=(HA.out V (Below.refl _ _)).2.2.2.lt
 have HC:=fun W (hW:Below V.heap.size V W)=>pcheck_any p pc cc W ((h.up hbV).up hW)
 have HF1:=fun W=>filled_any p.who who W hu
 have HF2:=fun W=>filled_any p.what what W hv
 have HR:Hid (∀W,LkRet p who what W (.returned (.tuple #[poZ,.iface 35 (.int .i64 (fif p.who who))]))):=fun W=>by
  have hl:lkf p who what=fif p.who who:=by unfold lkf;rw[if_pos h0,if_neg hn]
  show LkRet _ _ _ _ _
  unfold LkRet
  rw[hl,if_neg hn,eV_not hn]
 rw[eV_nil h0]at HC
 have HF1:∀W,Calls Tryz.prog 22 #[scV p.who,uiV who] W fun e w'=>e= .returned (.tuple #[scV ⟨0,eB,eU⟩,.iface 35 (.int .i64 (fif p.who who))])∧Below W.heap.size W w':=fun W=>(HF1 W).mono (by
  rintro e w' ⟨k1,k2⟩
  unfold FilRet at k1
  rw[if_neg hn,eV_not hn]at k1
  exact⟨k1,k2⟩)
 generalize fif p.who who=n at *
 unfold eB eU eB at HF1
 clear hn h0 h hu hv HF2
 unfold poC at hV
 unfold poV uiV at *
 try unfold scV at *
 go_enter Tryz.func10,Tryz.ntmps10
 go_wp2_with fail
 rw[←hV]
 clear hV
 refine(HC _ (Below.refl _ _)).mono ?_
 rintro _ w1 ⟨rfl,hb1⟩
 clear HC
 obtain⟨hB0,hB1,hB2,hB3⟩:=HA.out w1 hb1
 obtain⟨x0,x1,x2,x3,x4,x5,x6,x7,x8,x9,x10,x11,x12,x13,x14⟩:=po_cells hB0
 have u0:=hB1.cell 0
 have u1:=hB1.cell 1
 simp only[List.getElem?_toArray,List.getElem?_cons_zero,List.getElem?_cons_succ]at u0 u1
 clear hB0 hB1 hB2 hB3
 go_wp2_with fail
 refine(HF1 _).mono ?_
 rintro _ w2 ⟨rfl,hb2'⟩
 have hb2:Below V.heap.size V w2:=kqt hb1 hb2'
 clear HF1 hb2' u0 u1 x0 x1 x2 x3 x4 x5 x6 x7 x8 x9 x10 x11 x12 x13 x14
 obtain⟨hB0,hB1,hB2,hB3⟩:=HA.out w2 hb2
 have HZ:Hid (Blk w2 (w.heap.size+1+1+1) #[.string ⟨#[]⟩,.bool false,.int .i64 0,.string ⟨#[]⟩,.string ⟨#[]⟩,.string ⟨#[]⟩,.int .i64 0,.string ⟨#[]⟩,.string ⟨#[]⟩,.string ⟨#[]⟩,.int .i64 0,.string ⟨#[]⟩,.string ⟨#[]⟩,.string ⟨#[]⟩,.slice none 0 0] 28):=hB3
 have hlt:w.heap.size+1+1+1<w2.heap.size:=hB3.lt
 have y0:=hB3.cell 0
 have f0:=hB3.free 0
 have y1:=hB3.cell 1
 have f1:=hB3.free 1
 have y2:=hB3.cell 2
 have f2:=hB3.free 2
 have y3:=hB3.cell 3
 have f3:=hB3.free 3
 have y4:=hB3.cell 4
 have f4:=hB3.free 4
 have y5:=hB3.cell 5
 have f5:=hB3.free 5
 have y6:=hB3.cell 6
 have f6:=hB3.free 6
 have y7:=hB3.cell 7
 have f7:=hB3.free 7
 have y8:=hB3.cell 8
 have f8:=hB3.free 8
 have y9:=hB3.cell 9
 have f9:=hB3.free 9
 have y10:=hB3.cell 10
 have f10:=hB3.free 10
 have y11:=hB3.cell 11
 have f11:=hB3.free 11
 have y12:=hB3.cell 12
 have f12:=hB3.free 12
 have y13:=hB3.cell 13
 have f13:=hB3.free 13
 have y14:=hB3.cell 14
 have f14:=hB3.free 14
 simp only[List.getElem?_toArray,List.getElem?_cons_zero,List.getElem?_cons_succ]at y0 y1 y2 y3 y4 y5 y6 y7 y8 y9 y10 y11 y12 y13 y14
 clear HA hB0 hB1 hB2 hB3
 go_wp2
 obtain⟨X,hX⟩:∃X,X=(((((((((((((((w2).setCell ⟨(w.heap.size+1+1+1),0,none⟩ (.string ⟨#[]⟩)).setCell ⟨(w.heap.size+1+1+1),1,none⟩ (.bool false)).setCell ⟨(w.heap.size+1+1+1),2,none⟩ (.int .i64 0)).setCell ⟨(w.heap.size+1+1+1),3,none⟩ (.string ⟨#[]⟩)).setCell ⟨(w.heap.size+1+1+1),4,none⟩ (.string ⟨#[]⟩)).setCell ⟨(w.heap.size+1+1+1),5,none⟩ (.string ⟨#[]⟩)).setCell ⟨(w.heap.size+1+1+1),6,none⟩ (.int .i64 0)).setCell ⟨(w.heap.size+1+1+1),7,none⟩ (.string ⟨#[]⟩)).setCell ⟨(w.heap.size+1+1+1),8,none⟩ (.string ⟨#[]⟩)).setCell ⟨(w.heap.size+1+1+1),9,none⟩ (.string ⟨#[]⟩)).setCell ⟨(w.heap.size+1+1+1),10,none⟩ (.int .i64 0)).setCell ⟨(w.heap.size+1+1+1),11,none⟩ (.string ⟨#[]⟩)).setCell ⟨(w.heap.size+1+1+1),12,none⟩ (.string ⟨#[]⟩)).setCell ⟨(w.heap.size+1+1+1),13,none⟩ (.string ⟨#[]⟩)).setCell ⟨(w.heap.size+1+1+1),14,none⟩ (.slice none 0 0):=⟨_,rfl⟩
 rw[←hX]
 obtain⟨hbX,hkX⟩:Blk X (w.heap.size+1+1+1) #[.string ⟨#[]⟩,.bool false,.int .i64 0,.string ⟨#[]⟩,.string ⟨#[]⟩,.string ⟨#[]⟩,.int .i64 0,.string ⟨#[]⟩,.string ⟨#[]⟩,.string ⟨#[]⟩,.int .i64 0,.string ⟨#[]⟩,.string ⟨#[]⟩,.string ⟨#[]⟩,.slice none 0 0] 28∧Keep (fun x=>x=(w.heap.size+1+1+1)) w2 X:=by rw[hX];exact⟨lk_cells15 HZ.out (.string ⟨#[]⟩) (.bool false) (.int .i64 0) (.string ⟨#[]⟩) (.string ⟨#[]⟩) (.string ⟨#[]⟩) (.int .i64 0) (.string ⟨#[]⟩) (.string ⟨#[]⟩) (.string ⟨#[]⟩) (.int .i64 0) (.string ⟨#[]⟩) (.string ⟨#[]⟩) (.string ⟨#[]⟩) (.slice none 0 0),lk_keep15 _ _ _ _ _ _ _ _ _ _ _ _ _ _ _ _ _⟩
 have HBX:Hid (Below w.heap.size w X):=(kqt hbV hb2).trans (hkX.below (kqt hbV hb2).size (fun a e=>by have h2:a=(w.heap.size+1+1+1):=e;omega))
 obtain⟨Y,hY⟩:∃Y,Y=X.alloc (.cells #[.int .i64 0,.string ⟨#[]⟩,.string ⟨#[]⟩,.string ⟨#[]⟩] 25):=⟨_,rfl⟩
 rw[←hY]
 have hbY:Blk Y (w.heap.size+1+1+1) #[.string ⟨#[]⟩,.bool false,.int .i64 0,.string ⟨#[]⟩,.string ⟨#[]⟩,.string ⟨#[]⟩,.int .i64 0,.string ⟨#[]⟩,.string ⟨#[]⟩,.string ⟨#[]⟩,.int .i64 0,.string ⟨#[]⟩,.string ⟨#[]⟩,.string ⟨#[]⟩,.slice none 0 0] 28:=by rw[hY];exact hbX.up kqx
 have HBY:Hid (Below w.heap.size w Y):=by rw[hY];exact kqt HBX.out kqx
 clear hY hX hkX hbX
 have z0:=hbY.cell 0
 have z1:=hbY.cell 1
 have z2:=hbY.cell 2
 have z3:=hbY.cell 3
 have z4:=hbY.cell 4
 have z5:=hbY.cell 5
 have z6:=hbY.cell 6
 have z7:=hbY.cell 7
 have z8:=hbY.cell 8
 have z9:=hbY.cell 9
 have z10:=hbY.cell 10
 have z11:=hbY.cell 11
 have z12:=hbY.cell 12
 have z13:=hbY.cell 13
 have z14:=hbY.cell 14
 simp only[List.getElem?_toArray,List.getElem?_cons_zero,List.getElem?_cons_succ]at z0 z1 z2 z3 z4 z5 z6 z7 z8 z9 z10 z11 z12 z13 z14
 refine bodyPost_ret (v:=.tuple #[.agg #[.string ⟨#[]⟩,.bool false,.int .i64 0,.string ⟨#[]⟩,.string ⟨#[]⟩,.string ⟨#[]⟩,.int .i64 0,.string ⟨#[]⟩,.string ⟨#[]⟩,.string ⟨#[]⟩,.int .i64 0,.string ⟨#[]⟩,.string ⟨#[]⟩,.string ⟨#[]⟩,.slice none 0 0],.iface 35 (.int .i64 n)]) (by simp[results,Tryz.results10,go_sem,z0,z1,z2,z3,z4,z5,z6,z7,z8,z9,z10,z11,z12,z13,z14]) rfl ⟨?_,HBY.out⟩
 exact HR.out _
theorem link_what (h0:pof p=0)(h1:fif p.who who=0)(hn:fif p.what what≠0):
 Calls Tryz.prog 10 #[poV p pc cc,uiV who,uiV what] w fun e w'=>LkRet p who what w' e∧Below w.heap.size w w':=by
 obtain⟨V,hV⟩:∃V,V=(((w.alloc (.cells (poC p pc cc) 28)).alloc (.cells #[.string who.t,.string who.i] 23)).alloc (.cells #[.string what.t,.string what.i] 23)).alloc (.cells #[.string ⟨#[]⟩,.bool false,.int .i64 0,.string ⟨#[]⟩,.string ⟨#[]⟩,.string ⟨#[]⟩,.int .i64 0,.string ⟨#[]⟩,.string ⟨#[]⟩,.string ⟨#[]⟩,.int .i64 0,.string ⟨#[]⟩,.string ⟨#[]⟩,.string ⟨#[]⟩,.slice none 0 0] 28):=⟨_,rfl⟩
 have hbV:Below w.heap.size w V:=by rw[hV];exact kqx
 have HA:Hid (∀W,Below V.heap.size V W→Blk W w.heap.size (poC p pc cc) 28∧Blk W (w.heap.size+1) #[.string who.t,.string who.i] 23∧Blk W (w.heap.size+1+1) #[.string what.t,.string what.i] 23∧Blk W (w.heap.size+1+1+1) #[.string ⟨#[]⟩,.bool false,.int .i64 0,.string ⟨#[]⟩,.string ⟨#[]⟩,.string ⟨#[]⟩,.int .i64 0,.string ⟨#[]⟩,.string ⟨#[]⟩,.string ⟨#[]⟩,.int .i64 0,.string ⟨#[]⟩,.string ⟨#[]⟩,.string ⟨#[]⟩,.slice none 0 0] 28):=fun W hW=>by
  have h1:Blk V w.heap.size (poC p pc cc) 28:=by rw[hV];exact(((Blk.new w _ _ rfl).up kqx).up kqx).up kqx
  have h2:Blk V (w.heap.size+1) #[.string who.t,.string who.i] 23:=by rw[hV];refine((Blk.new (w.alloc _) _ _ ?_).up kqx).up kqx;simp
  have h3:Blk V (w.heap.size+1+1) #[.string what.t,.string what.i] 23:=by rw[hV];refine(Blk.new ((w.alloc _).alloc _) _ _ ?_).up kqx;simp
  have h4:Blk V (w.heap.size+1+1+1) #[.string ⟨#[]⟩,.bool false,.int .i64 0,.string ⟨#[]⟩,.string ⟨#[]⟩,.string ⟨#[]⟩,.int .i64 0,.string ⟨#[]⟩,.string ⟨#[]⟩,.string ⟨#[]⟩,.int .i64 0,.string ⟨#[]⟩,.string ⟨#[]⟩,.string ⟨#[]⟩,.slice none 0 0] 28:=by rw[hV];refine Blk.new (((w.alloc _).alloc _).alloc _) _ _ ?_;simp
  exact⟨h1.up hW,h2.up hW,h3.up hW,h4.up hW⟩
 have hltV:w.heap.size+1+1+1<V.heap.size:=(HA.out V (Below.refl _ _)).2.2.2.lt
 have HC:=fun W (hW:Below V.heap.size V W)=>pcheck_any p pc cc W ((h.up hbV).up hW)
 have HF1:=fun W=>filled_any p.who who W hu
 have HF2:=fun W=>filled_any p.what what W hv
 have HR:Hid (∀W,LkRet p who what W (.returned (.tuple #[poZ,.iface 35 (.int .i64 (fif p.what what))]))):=fun W=>by
  have hl:lkf p who what=fif p.what what:=by unfold lkf;rw[if_pos h0,if_pos h1]
  show LkRet _ _ _ _ _
  unfold LkRet
  rw[hl,if_neg hn,eV_not hn]
 rw[eV_nil h0]at HC
 have HF1:∀W,Calls Tryz.prog 22 #[scV p.who,uiV who] W fun e w'=>e= .returned (.tuple #[scV (fil p.who who),.nilIface])∧Below W.heap.size W w':=fun W=>(HF1 W).mono (by
  rintro e w' ⟨k1,k2⟩
  unfold FilRet at k1
  rw[if_pos h1]at k1
  exact⟨k1,k2⟩)
 have HF2:∀W,Calls Tryz.prog 22 #[scV p.what,uiV what] W fun e w'=>e= .returned (.tuple #[scV ⟨0,eB,eU⟩,.iface 35 (.int .i64 (fif p.what what))])∧Below W.heap.size W w':=fun W=>(HF2 W).mono (by
  rintro e w' ⟨k1,k2⟩
  unfold FilRet at k1
  rw[if_neg hn,eV_not hn]at k1
  exact⟨k1,k2⟩)
 generalize fif p.what what=n at *
 generalize fil p.who who=S at *
 unfold eB eU eB at HF2
 clear hn h0 h1 h hu hv
 unfold poC at hV
 unfold poV uiV at *
 try unfold scV at *
 go_enter Tryz.func10,Tryz.ntmps10
 go_wp2_with fail
 rw[←hV]
 clear hV
 refine(HC _ (Below.refl _ _)).mono ?_
 rintro _ w1 ⟨rfl,hb1⟩
 clear HC
 obtain⟨hB0,hB1,hB2,hB3⟩:=HA.out w1 hb1
 obtain⟨x0,x1,x2,x3,x4,x5,x6,x7,x8,x9,x10,x11,x12,x13,x14⟩:=po_cells hB0
 have u0:=hB1.cell 0
 have u1:=hB1.cell 1
 simp only[List.getElem?_toArray,List.getElem?_cons_zero,List.getElem?_cons_succ]at u0 u1
 clear hB0 hB1 hB2 hB3
 go_wp2_with fail
 refine(HF1 _).mono ?_
 rintro _ w2 ⟨rfl,hb2'⟩
 have hb2:Below V.heap.size V w2:=kqt hb1 hb2'
 clear HF1 hb2' u0 u1 x0 x1 x2 x3 x4 x5 x6 x7 x8 x9 x10 x11 x12 x13 x14
 obtain⟨V2,hV2⟩:∃V2,V2=w2.alloc (.cells #[.int .i64 S.op,.string S.ty,.string S.u.t,.string S.u.i] 25):=⟨_,rfl⟩
 have hbV2:Below V.heap.size V V2:=by rw[hV2];exact kqt hb2 kqx
 have HS4:Hid (Blk V2 w2.heap.size #[.int .i64 S.op,.string S.ty,.string S.u.t,.string S.u.i] 25):=by rw[hV2];exact Blk.new w2 _ _ rfl
 obtain⟨g4,hg4⟩:∃g,g=w2.heap.size:=⟨_,rfl⟩
 rw[←hg4]at HS4
 have hg4V:V.heap.size≤g4:=by rw[hg4];exact hb2.size
 obtain⟨hB0,hB1,hB2,hB3⟩:=HA.out w2 hb2
 have hlt2:w.heap.size<w2.heap.size:=hB0.lt
 have hlt3:w.heap.size+1+1<w2.heap.size:=hB2.lt
 obtain⟨x0,x1,x2,x3,x4,x5,x6,x7,x8,x9,x10,x11,x12,x13,x14⟩:=po_cells hB0
 have u0:=hB2.cell 0
 have u1:=hB2.cell 1
 simp only[List.getElem?_toArray,List.getElem?_cons_zero,List.getElem?_cons_succ]at u0 u1
 clear hB0 hB1 hB2 hB3
 go_wp2_with fail
 rw[←hV2,←hg4]
 clear hV2 hg4
 refine(HF2 _).mono ?_
 rintro _ w3 ⟨rfl,hb3'⟩
 have hb3:Below V.heap.size V w3:=kqt hbV2 hb3'
 have HS5:Hid (Blk w3 g4 #[.int .i64 S.op,.string S.ty,.string S.u.t,.string S.u.i] 25):=HS4.out.up hb3'
 clear HF2 HS4 hb3' hlt2 hlt3 u0 u1 x0 x1 x2 x3 x4 x5 x6 x7 x8 x9 x10 x11 x12 x13 x14
 obtain⟨hB0,hB1,hB2,hB3⟩:=HA.out w3 hb3
 have HZ:Hid (Blk w3 (w.heap.size+1+1+1) #[.string ⟨#[]⟩,.bool false,.int .i64 0,.string ⟨#[]⟩,.string ⟨#[]⟩,.string ⟨#[]⟩,.int .i64 0,.string ⟨#[]⟩,.string ⟨#[]⟩,.string ⟨#[]⟩,.int .i64 0,.string ⟨#[]⟩,.string ⟨#[]⟩,.string ⟨#[]⟩,.slice none 0 0] 28):=hB3
 have hlt:w.heap.size+1+1+1<w3.heap.size:=hB3.lt
 have y0:=hB3.cell 0
 have f0:=hB3.free 0
 have y1:=hB3.cell 1
 have f1:=hB3.free 1
 have y2:=hB3.cell 2
 have f2:=hB3.free 2
 have y3:=hB3.cell 3
 have f3:=hB3.free 3
 have y4:=hB3.cell 4
 have f4:=hB3.free 4
 have y5:=hB3.cell 5
 have f5:=hB3.free 5
 have y6:=hB3.cell 6
 have f6:=hB3.free 6
 have y7:=hB3.cell 7
 have f7:=hB3.free 7
 have y8:=hB3.cell 8
 have f8:=hB3.free 8
 have y9:=hB3.cell 9
 have f9:=hB3.free 9
 have y10:=hB3.cell 10
 have f10:=hB3.free 10
 have y11:=hB3.cell 11
 have f11:=hB3.free 11
 have y12:=hB3.cell 12
 have f12:=hB3.free 12
 have y13:=hB3.cell 13
 have f13:=hB3.free 13
 have y14:=hB3.cell 14
 have f14:=hB3.free 14
 simp only[List.getElem?_toArray,List.getElem?_cons_zero,List.getElem?_cons_succ]at y0 y1 y2 y3 y4 y5 y6 y7 y8 y9 y10 y11 y12 y13 y14
 clear HA HS5 hB0 hB1 hB2 hB3
 go_wp2
 obtain⟨X,hX⟩:∃X,X=(((((((((((((((w3).setCell ⟨(w.heap.size+1+1+1),0,none⟩ (.string ⟨#[]⟩)).setCell ⟨(w.heap.size+1+1+1),1,none⟩ (.bool false)).setCell ⟨(w.heap.size+1+1+1),2,none⟩ (.int .i64 0)).setCell ⟨(w.heap.size+1+1+1),3,none⟩ (.string ⟨#[]⟩)).setCell ⟨(w.heap.size+1+1+1),4,none⟩ (.string ⟨#[]⟩)).setCell ⟨(w.heap.size+1+1+1),5,none⟩ (.string ⟨#[]⟩)).setCell ⟨(w.heap.size+1+1+1),6,none⟩ (.int .i64 0)).setCell ⟨(w.heap.size+1+1+1),7,none⟩ (.string ⟨#[]⟩)).setCell ⟨(w.heap.size+1+1+1),8,none⟩ (.string ⟨#[]⟩)).setCell ⟨(w.heap.size+1+1+1),9,none⟩ (.string ⟨#[]⟩)).setCell ⟨(w.heap.size+1+1+1),10,none⟩ (.int .i64 0)).setCell ⟨(w.heap.size+1+1+1),11,none⟩ (.string ⟨#[]⟩)).setCell ⟨(w.heap.size+1+1+1),12,none⟩ (.string ⟨#[]⟩)).setCell ⟨(w.heap.size+1+1+1),13,none⟩ (.string ⟨#[]⟩)).setCell ⟨(w.heap.size+1+1+1),14,none⟩ (.slice none 0 0):=⟨_,rfl⟩
 rw[←hX]
 obtain⟨hbX,hkX⟩:Blk X (w.heap.size+1+1+1) #[.string ⟨#[]⟩,.bool false,.int .i64 0,.string ⟨#[]⟩,.string ⟨#[]⟩,.string ⟨#[]⟩,.int .i64 0,.string ⟨#[]⟩,.string ⟨#[]⟩,.string ⟨#[]⟩,.int .i64 0,.string ⟨#[]⟩,.string ⟨#[]⟩,.string ⟨#[]⟩,.slice none 0 0] 28∧Keep (fun x=>x=(w.heap.size+1+1+1)) w3 X:=by rw[hX];exact⟨lk_cells15 HZ.out (.string ⟨#[]⟩) (.bool false) (.int .i64 0) (.string ⟨#[]⟩) (.string ⟨#[]⟩) (.string ⟨#[]⟩) (.int .i64 0) (.string ⟨#[]⟩) (.string ⟨#[]⟩) (.string ⟨#[]⟩) (.int .i64 0) (.string ⟨#[]⟩) (.string ⟨#[]⟩) (.string ⟨#[]⟩) (.slice none 0 0),lk_keep15 _ _ _ _ _ _ _ _ _ _ _ _ _ _ _ _ _⟩
 have HBX:Hid (Below w.heap.size w X):=(kqt hbV hb3).trans (hkX.below (kqt hbV hb3).size (fun a e=>by have h2:a=(w.heap.size+1+1+1):=e;omega))
 obtain⟨Y,hY⟩:∃Y,Y=X.alloc (.cells #[.int .i64 0,.string ⟨#[]⟩,.string ⟨#[]⟩,.string ⟨#[]⟩] 25):=⟨_,rfl⟩
 rw[←hY]
 have hbY:Blk Y (w.heap.size+1+1+1) #[.string ⟨#[]⟩,.bool false,.int .i64 0,.string ⟨#[]⟩,.string ⟨#[]⟩,.string ⟨#[]⟩,.int .i64 0,.string ⟨#[]⟩,.string ⟨#[]⟩,.string ⟨#[]⟩,.int .i64 0,.string ⟨#[]⟩,.string ⟨#[]⟩,.string ⟨#[]⟩,.slice none 0 0] 28:=by rw[hY];exact hbX.up kqx
 have HBY:Hid (Below w.heap.size w Y):=by rw[hY];exact kqt HBX.out kqx
 clear hY hX hkX hbX
 have z0:=hbY.cell 0
 have z1:=hbY.cell 1
 have z2:=hbY.cell 2
 have z3:=hbY.cell 3
 have z4:=hbY.cell 4
 have z5:=hbY.cell 5
 have z6:=hbY.cell 6
 have z7:=hbY.cell 7
 have z8:=hbY.cell 8
 have z9:=hbY.cell 9
 have z10:=hbY.cell 10
 have z11:=hbY.cell 11
 have z12:=hbY.cell 12
 have z13:=hbY.cell 13
 have z14:=hbY.cell 14
 simp only[List.getElem?_toArray,List.getElem?_cons_zero,List.getElem?_cons_succ]at z0 z1 z2 z3 z4 z5 z6 z7 z8 z9 z10 z11 z12 z13 z14
 refine bodyPost_ret (v:=.tuple #[.agg #[.string ⟨#[]⟩,.bool false,.int .i64 0,.string ⟨#[]⟩,.string ⟨#[]⟩,.string ⟨#[]⟩,.int .i64 0,.string ⟨#[]⟩,.string ⟨#[]⟩,.string ⟨#[]⟩,.int .i64 0,.string ⟨#[]⟩,.string ⟨#[]⟩,.string ⟨#[]⟩,.slice none 0 0],.iface 35 (.int .i64 n)]) (by simp[results,Tryz.results10,go_sem,z0,z1,z2,z3,z4,z5,z6,z7,z8,z9,z10,z11,z12,z13,z14]) rfl ⟨?_,HBY.out⟩
 exact HR.out _
end
set_option linter.unusedSectionVars false
def LdRet (p:Po)(pc:Option Addr)(cc:Nat)(who what:Ui)(e:Ending):Prop:=
 if lkf p who what=0 then e= .returned (.tuple #[poV (lkP p who what) pc cc,.int .i64 0])else e= .returned (.tuple #[poZ,.int .i64 (lkf p who what)])
theorem ruf_any (u:Ui)(w:World)(h:UOk u):Calls Tryz.prog 20 #[uiV u] w fun e w'=>e= .returned (.int .i64 (uf u))∧Below w.heap.size w w':=uidFault_any u.t u.i w h.1 h.2
section
variable (p:Po) (pc:Option Addr) (cc:Nat) (who what:Ui) (w:World) (h:PoA w p pc cc) (hu:UOk who) (hv:UOk what)
include h hu hv
theorem linked_bad (hn:pof p≠0):
 Calls Tryz.prog 9 #[poV p pc cc,uiV who,uiV what] w fun e w'=>LdRet p pc cc who what e∧Below w.heap.size w w':=by
 obtain⟨V,hV⟩:∃V,V=(((w.alloc (.cells (poC p pc cc) 28)).alloc (.cells #[.string who.t,.string who.i] 23)).alloc (.cells #[.string what.t,.string what.i] 23)).alloc (.cells #[.string ⟨#[]⟩,.bool false,.int .i64 0,.string ⟨#[]⟩,.string ⟨#[]⟩,.string ⟨#[]⟩,.int .i64 0,.string ⟨#[]⟩,.string ⟨#[]⟩,.string ⟨#[]⟩,.int .i64 0,.string ⟨#[]⟩,.string ⟨#[]⟩,.string ⟨#[]⟩,.slice none 0 0] 28):=⟨_,rfl⟩
 have hbV:Below w.heap.size w V:=by rw[hV];exact kqx
 have HA:Hid (∀W,Below V.heap.size V W→Blk W w.heap.size (poC p pc cc) 28∧Blk W (w.heap.size+1) #[.string who.t,.string who.i] 23∧Blk W (w.heap.size+1+1) #[.string what.t,.string what.i] 23∧Blk W (w.heap.size+1+1+1) #[.string ⟨#[]⟩,.bool false,.int .i64 0,.string ⟨#[]⟩,.string ⟨#[]⟩,.string ⟨#[]⟩,.int .i64 0,.string ⟨#[]⟩,.string ⟨#[]⟩,.string ⟨#[]⟩,.int .i64 0,.string ⟨#[]⟩,.string ⟨#[]⟩,.string ⟨#[]⟩,.slice none 0 0] 28):=fun W hW=>by
  have h1:Blk V w.heap.size (poC p pc cc) 28:=by rw[hV];exact(((Blk.new w _ _ rfl).up kqx).up kqx).up kqx
  have h2:Blk V (w.heap.size+1) #[.string who.t,.string who.i] 23:=by rw[hV];refine((Blk.new (w.alloc _) _ _ ?_).up kqx).up kqx;simp
  have h3:Blk V (w.heap.size+1+1) #[.string what.t,.string what.i] 23:=by rw[hV];refine(Blk.new ((w.alloc _).alloc _) _ _ ?_).up kqx;simp
  have h4:Blk V (w.heap.size+1+1+1) #[.string ⟨#[]⟩,.bool false,.int .i64 0,.string ⟨#[]⟩,.string ⟨#[]⟩,.string ⟨#[]⟩,.int .i64 0,.string ⟨#[]⟩,.string ⟨#[]⟩,.string ⟨#[]⟩,.int .i64 0,.string ⟨#[]⟩,.string ⟨#[]⟩,.string ⟨#[]⟩,.slice none 0 0] 28:=by rw[hV];refine Blk.new (((w.alloc _).alloc _).alloc _) _ _ ?_;simp
  exact⟨h1.up hW,h2.up hW,h3.up hW,h4.up hW⟩
 have HC:=policyFault_any p pc cc V (h.up hbV)
 have HS1:=slotted_any p.who
 have HS2:=slotted_any p.what
 have HU1:=fun W=>ruf_any who W hu
 have HU2:=fun W=>ruf_any what W hv
 have HF1:=rfilled_any p.who who
 have HF2:=rfilled_any p.what what
 have HR:Hid (LdRet p pc cc who what (.returned (.tuple #[poZ,.int .i64 (pof p)]))):=by
  have hl:lkf p who what=pof p:=by unfold lkf;rw[if_neg hn]
  show LdRet _ _ _ _ _ _
  unfold LdRet
  rw[hl,if_neg hn]
 have hn2:(pof p == 0)=false:=by simpa using hn
 generalize pof p=n at *
 clear hn h hu hv HS1 HS2 HU1 HU2 HF1 HF2
 unfold poC at hV
 unfold poV uiV at *
 try unfold scV at *
 go_enter Tryz.func9,Tryz.ntmps9
 go_wp2_with fail
 rw[←hV]
 clear hV
 refine HC.mono ?_
 rintro _ w1 ⟨rfl,hb1⟩
 clear HC
 obtain⟨hB0,hB1,hB2,hB3⟩:=HA.out w1 hb1
 have HZ:Hid (Blk w1 (w.heap.size+1+1+1) #[.string ⟨#[]⟩,.bool false,.int .i64 0,.string ⟨#[]⟩,.string ⟨#[]⟩,.string ⟨#[]⟩,.int .i64 0,.string ⟨#[]⟩,.string ⟨#[]⟩,.string ⟨#[]⟩,.int .i64 0,.string ⟨#[]⟩,.string ⟨#[]⟩,.string ⟨#[]⟩,.slice none 0 0] 28):=hB3
 have y0:=hB3.cell 0
 have f0:=hB3.free 0
 have y1:=hB3.cell 1
 have f1:=hB3.free 1
 have y2:=hB3.cell 2
 have f2:=hB3.free 2
 have y3:=hB3.cell 3
 have f3:=hB3.free 3
 have y4:=hB3.cell 4
 have f4:=hB3.free 4
 have y5:=hB3.cell 5
 have f5:=hB3.free 5
 have y6:=hB3.cell 6
 have f6:=hB3.free 6
 have y7:=hB3.cell 7
 have f7:=hB3.free 7
 have y8:=hB3.cell 8
 have f8:=hB3.free 8
 have y9:=hB3.cell 9
 have f9:=hB3.free 9
 have y10:=hB3.cell 10
 have f10:=hB3.free 10
 have y11:=hB3.cell 11
 have f11:=hB3.free 11
 have y12:=hB3.cell 12
 have f12:=hB3.free 12
 have y13:=hB3.cell 13
 have f13:=hB3.free 13
 have y14:=hB3.cell 14
 have f14:=hB3.free 14
 simp only[List.getElem?_toArray,List.getElem?_cons_zero,List.getElem?_cons_succ]at y0 y1 y2 y3 y4 y5 y6 y7 y8 y9 y10 y11 y12 y13 y14
 clear HA hB0 hB1 hB2 hB3
 go_wp2
 obtain⟨Y,hY⟩:∃Y,Y=(((((((((((((((w1).setCell ⟨(w.heap.size+1+1+1),0,none⟩ (.string ⟨#[]⟩)).setCell ⟨(w.heap.size+1+1+1),1,none⟩ (.bool false)).setCell ⟨(w.heap.size+1+1+1),2,none⟩ (.int .i64 0)).setCell ⟨(w.heap.size+1+1+1),3,none⟩ (.string ⟨#[]⟩)).setCell ⟨(w.heap.size+1+1+1),4,none⟩ (.string ⟨#[]⟩)).setCell ⟨(w.heap.size+1+1+1),5,none⟩ (.string ⟨#[]⟩)).setCell ⟨(w.heap.size+1+1+1),6,none⟩ (.int .i64 0)).setCell ⟨(w.heap.size+1+1+1),7,none⟩ (.string ⟨#[]⟩)).setCell ⟨(w.heap.size+1+1+1),8,none⟩ (.string ⟨#[]⟩)).setCell ⟨(w.heap.size+1+1+1),9,none⟩ (.string ⟨#[]⟩)).setCell ⟨(w.heap.size+1+1+1),10,none⟩ (.int .i64 0)).setCell ⟨(w.heap.size+1+1+1),11,none⟩ (.string ⟨#[]⟩)).setCell ⟨(w.heap.size+1+1+1),12,none⟩ (.string ⟨#[]⟩)).setCell ⟨(w.heap.size+1+1+1),13,none⟩ (.string ⟨#[]⟩)).setCell ⟨(w.heap.size+1+1+1),14,none⟩ (.slice none 0 0):=⟨_,rfl⟩
 rw[←hY]
 obtain⟨hbY,hkY⟩:Blk Y (w.heap.size+1+1+1) #[.string ⟨#[]⟩,.bool false,.int .i64 0,.string ⟨#[]⟩,.string ⟨#[]⟩,.string ⟨#[]⟩,.int .i64 0,.string ⟨#[]⟩,.string ⟨#[]⟩,.string ⟨#[]⟩,.int .i64 0,.string ⟨#[]⟩,.string ⟨#[]⟩,.string ⟨#[]⟩,.slice none 0 0] 28∧Keep (fun x=>x=(w.heap.size+1+1+1)) w1 Y:=by rw[hY];exact⟨lk_cells15 HZ.out (.string ⟨#[]⟩) (.bool false) (.int .i64 0) (.string ⟨#[]⟩) (.string ⟨#[]⟩) (.string ⟨#[]⟩) (.int .i64 0) (.string ⟨#[]⟩) (.string ⟨#[]⟩) (.string ⟨#[]⟩) (.int .i64 0) (.string ⟨#[]⟩) (.string ⟨#[]⟩) (.string ⟨#[]⟩) (.slice none 0 0),lk_keep15 _ _ _ _ _ _ _ _ _ _ _ _ _ _ _ _ _⟩
 have HBY:Hid (Below w.heap.size w Y):=((kqt hbV hb1)).trans (hkY.below ((kqt hbV hb1)).size (fun a e=>by have h2:a=(w.heap.size+1+1+1):=e;omega))
 clear hY hkY
 have z0:=hbY.cell 0
 have z1:=hbY.cell 1
 have z2:=hbY.cell 2
 have z3:=hbY.cell 3
 have z4:=hbY.cell 4
 have z5:=hbY.cell 5
 have z6:=hbY.cell 6
 have z7:=hbY.cell 7
 have z8:=hbY.cell 8
 have z9:=hbY.cell 9
 have z10:=hbY.cell 10
 have z11:=hbY.cell 11
 have z12:=hbY.cell 12
 have z13:=hbY.cell 13
 have z14:=hbY.cell 14
 simp only[List.getElem?_toArray,List.getElem?_cons_zero,List.getElem?_cons_succ]at z0 z1 z2 z3 z4 z5 z6 z7 z8 z9 z10 z11 z12 z13 z14
 refine bodyPost_ret (v:=.tuple #[.agg #[.string ⟨#[]⟩,.bool false,.int .i64 0,.string ⟨#[]⟩,.string ⟨#[]⟩,.string ⟨#[]⟩,.int .i64 0,.string ⟨#[]⟩,.string ⟨#[]⟩,.string ⟨#[]⟩,.int .i64 0,.string ⟨#[]⟩,.string ⟨#[]⟩,.string ⟨#[]⟩,.slice none 0 0],.int .i64 n]) (by simp[results,Tryz.results9,go_sem,z0,z1,z2,z3,z4,z5,z6,z7,z8,z9,z10,z11,z12,z13,z14]) rfl ⟨?_,HBY.out⟩
 exact HR.out
theorem linked_who (h0:pof p=0)(h1:hsl p.who=true)(hn:uf who≠0):
 Calls Tryz.prog 9 #[poV p pc cc,uiV who,uiV what] w fun e w'=>LdRet p pc cc who what e∧Below w.heap.size w w':=by
 obtain⟨V,hV⟩:∃V,V=(((w.alloc (.cells (poC p pc cc) 28)).alloc (.cells #[.string who.t,.string who.i] 23)).alloc (.cells #[.string what.t,.string what.i] 23)).alloc (.cells #[.string ⟨#[]⟩,.bool false,.int .i64 0,.string ⟨#[]⟩,.string ⟨#[]⟩,.string ⟨#[]⟩,.int .i64 0,.string ⟨#[]⟩,.string ⟨#[]⟩,.string ⟨#[]⟩,.int .i64 0,.string ⟨#[]⟩,.string ⟨#[]⟩,.string ⟨#[]⟩,.slice none 0 0] 28):=⟨_,rfl⟩
 have hbV:Below w.heap.size w V:=by rw[hV];exact kqx
 have HA:Hid (∀W,Below V.heap.size V W→Blk W w.heap.size (poC p pc cc) 28∧Blk W (w.heap.size+1) #[.string who.t,.string who.i] 23∧Blk W (w.heap.size+1+1) #[.string what.t,.string what.i] 23∧Blk W (w.heap.size+1+1+1) #[.string ⟨#[]⟩,.bool false,.int .i64 0,.string ⟨#[]⟩,.string ⟨#[]⟩,.string ⟨#[]⟩,.int .i64 0,.string ⟨#[]⟩,.string ⟨#[]⟩,.string ⟨#[]⟩,.int .i64 0,.string ⟨#[]⟩,.string ⟨#[]⟩,.string ⟨#[]⟩,.slice none 0 0] 28):=fun W hW=>by
  have h1:Blk V w.heap.size (poC p pc cc) 28:=by rw[hV];exact(((Blk.new w _ _ rfl).up kqx).up kqx).up kqx
  have h2:Blk V (w.heap.size+1) #[.string who.t,.string who.i] 23:=by rw[hV];refine((Blk.new (w.alloc _) _ _ ?_).up kqx).up kqx;simp
  have h3:Blk V (w.heap.size+1+1) #[.string what.t,.string what.i] 23:=by rw[hV];refine(Blk.new ((w.alloc _).alloc _) _ _ ?_).up kqx;simp
  have h4:Blk V (w.heap.size+1+1+1) #[.string ⟨#[]⟩,.bool false,.int .i64 0,.string ⟨#[]⟩,.string ⟨#[]⟩,.string ⟨#[]⟩,.int .i64 0,.string ⟨#[]⟩,.string ⟨#[]⟩,.string ⟨#[]⟩,.int .i64 0,.string ⟨#[]⟩,.string ⟨#[]⟩,.string ⟨#[]⟩,.slice none 0 0] 28:=by rw[hV];refine Blk.new (((w.alloc _).alloc _).alloc _) _ _ ?_;simp
  exact⟨h1.up hW,h2.up hW,h3.up hW,h4.up hW⟩
 have HC:=policyFault_any p pc cc V (h.up hbV)
 have HS1:=slotted_any p.who
 have HS2:=slotted_any p.what
 have HU1:=fun W=>ruf_any who W hu
 have HU2:=fun W=>ruf_any what W hv
 have HF1:=rfilled_any p.who who
 have HF2:=rfilled_any p.what what
 have HR:Hid (LdRet p pc cc who what (.returned (.tuple #[poZ,.int .i64 (uf who)]))):=by
  have hl:lkf p who what=uf who:=by unfold lkf fif;rw[if_pos h0,h1,if_pos rfl,if_neg hn]
  show LdRet _ _ _ _ _ _
  unfold LdRet
  rw[hl,if_neg hn]
 rw[h0]at HC
 rw[h1]at HS1
 have hn2:(uf who == 0)=false:=by simpa using hn
 generalize uf who=n at *
 clear hn h0 h1 h hu hv HS2 HU2 HF1 HF2
 unfold poC at hV
 unfold poV uiV at *
 try unfold scV at *
 go_enter Tryz.func9,Tryz.ntmps9
 go_wp2_with fail
 rw[←hV]
 clear hV
 refine HC.mono ?_
 rintro _ w1 ⟨rfl,hb1⟩
 clear HC
 obtain⟨hB0,hB1,hB2,hB3⟩:=HA.out w1 hb1
 obtain⟨x0,x1,x2,x3,x4,x5,x6,x7,x8,x9,x10,x11,x12,x13,x14⟩:=po_cells hB0
 have l0:w.heap.size<w1.heap.size:=hB0.lt
 have l2:w.heap.size+1+1<w1.heap.size:=hB2.lt
 clear hB0 hB1 hB2 hB3
 go_wp2_with fail
 refine(HS1 _).mono ?_
 rintro _ w2 ⟨rfl,hb2'⟩
 have hb2:Below V.heap.size V w2:=kqt hb1 hb2'
 clear HS1 hb2' l0 l2 x0 x1 x2 x3 x4 x5 x6 x7 x8 x9 x10 x11 x12 x13 x14
 obtain⟨hB0,hB1,hB2,hB3⟩:=HA.out w2 hb2
 have u0:=hB1.cell 0
 have u1:=hB1.cell 1
 simp only[List.getElem?_toArray,List.getElem?_cons_zero,List.getElem?_cons_succ]at u0 u1
 have l0:w.heap.size<w2.heap.size:=hB0.lt
 have l2:w.heap.size+1+1<w2.heap.size:=hB2.lt
 clear hB0 hB1 hB2 hB3
 go_wp2_with fail
 refine(HU1 _).mono ?_
 rintro _ w3 ⟨rfl,hb3'⟩
 have hb3:Below V.heap.size V w3:=kqt hb2 hb3'
 clear HU1 hb3' l0 l2 u0 u1
 obtain⟨hB0,hB1,hB2,hB3⟩:=HA.out w3 hb3
 have HZ:Hid (Blk w3 (w.heap.size+1+1+1) #[.string ⟨#[]⟩,.bool false,.int .i64 0,.string ⟨#[]⟩,.string ⟨#[]⟩,.string ⟨#[]⟩,.int .i64 0,.string ⟨#[]⟩,.string ⟨#[]⟩,.string ⟨#[]⟩,.int .i64 0,.string ⟨#[]⟩,.string ⟨#[]⟩,.string ⟨#[]⟩,.slice none 0 0] 28):=hB3
 have y0:=hB3.cell 0
 have f0:=hB3.free 0
 have y1:=hB3.cell 1
 have f1:=hB3.free 1
 have y2:=hB3.cell 2
 have f2:=hB3.free 2
 have y3:=hB3.cell 3
 have f3:=hB3.free 3
 have y4:=hB3.cell 4
 have f4:=hB3.free 4
 have y5:=hB3.cell 5
 have f5:=hB3.free 5
 have y6:=hB3.cell 6
 have f6:=hB3.free 6
 have y7:=hB3.cell 7
 have f7:=hB3.free 7
 have y8:=hB3.cell 8
 have f8:=hB3.free 8
 have y9:=hB3.cell 9
 have f9:=hB3.free 9
 have y10:=hB3.cell 10
 have f10:=hB3.free 10
 have y11:=hB3.cell 11
 have f11:=hB3.free 11
 have y12:=hB3.cell 12
 have f12:=hB3.free 12
 have y13:=hB3.cell 13
 have f13:=hB3.free 13
 have y14:=hB3.cell 14
 have f14:=hB3.free 14
 simp only[List.getElem?_toArray,List.getElem?_cons_zero,List.getElem?_cons_succ]at y0 y1 y2 y3 y4 y5 y6 y7 y8 y9 y10 y11 y12 y13 y14
 clear HA hB0 hB1 hB2 hB3
 go_wp2
 obtain⟨Y,hY⟩:∃Y,Y=(((((((((((((((w3).setCell ⟨(w.heap.size+1+1+1),0,none⟩ (.string ⟨#[]⟩)).setCell ⟨(w.heap.size+1+1+1),1,none⟩ (.bool false)).setCell ⟨(w.heap.size+1+1+1),2,none⟩ (.int .i64 0)).setCell ⟨(w.heap.size+1+1+1),3,none⟩ (.string ⟨#[]⟩)).setCell ⟨(w.heap.size+1+1+1),4,none⟩ (.string ⟨#[]⟩)).setCell ⟨(w.heap.size+1+1+1),5,none⟩ (.string ⟨#[]⟩)).setCell ⟨(w.heap.size+1+1+1),6,none⟩ (.int .i64 0)).setCell ⟨(w.heap.size+1+1+1),7,none⟩ (.string ⟨#[]⟩)).setCell ⟨(w.heap.size+1+1+1),8,none⟩ (.string ⟨#[]⟩)).setCell ⟨(w.heap.size+1+1+1),9,none⟩ (.string ⟨#[]⟩)).setCell ⟨(w.heap.size+1+1+1),10,none⟩ (.int .i64 0)).setCell ⟨(w.heap.size+1+1+1),11,none⟩ (.string ⟨#[]⟩)).setCell ⟨(w.heap.size+1+1+1),12,none⟩ (.string ⟨#[]⟩)).setCell ⟨(w.heap.size+1+1+1),13,none⟩ (.string ⟨#[]⟩)).setCell ⟨(w.heap.size+1+1+1),14,none⟩ (.slice none 0 0):=⟨_,rfl⟩
 rw[←hY]
 obtain⟨hbY,hkY⟩:Blk Y (w.heap.size+1+1+1) #[.string ⟨#[]⟩,.bool false,.int .i64 0,.string ⟨#[]⟩,.string ⟨#[]⟩,.string ⟨#[]⟩,.int .i64 0,.string ⟨#[]⟩,.string ⟨#[]⟩,.string ⟨#[]⟩,.int .i64 0,.string ⟨#[]⟩,.string ⟨#[]⟩,.string ⟨#[]⟩,.slice none 0 0] 28∧Keep (fun x=>x=(w.heap.size+1+1+1)) w3 Y:=by rw[hY];exact⟨lk_cells15 HZ.out (.string ⟨#[]⟩) (.bool false) (.int .i64 0) (.string ⟨#[]⟩) (.string ⟨#[]⟩) (.string ⟨#[]⟩) (.int .i64 0) (.string ⟨#[]⟩) (.string ⟨#[]⟩) (.string ⟨#[]⟩) (.int .i64 0) (.string ⟨#[]⟩) (.string ⟨#[]⟩) (.string ⟨#[]⟩) (.slice none 0 0),lk_keep15 _ _ _ _ _ _ _ _ _ _ _ _ _ _ _ _ _⟩
 have HBY:Hid (Below w.heap.size w Y):=((kqt hbV hb3)).trans (hkY.below ((kqt hbV hb3)).size (fun a e=>by have h2:a=(w.heap.size+1+1+1):=e;omega))
 clear hY hkY
 have z0:=hbY.cell 0
 have z1:=hbY.cell 1
 have z2:=hbY.cell 2
 have z3:=hbY.cell 3
 have z4:=hbY.cell 4
 have z5:=hbY.cell 5
 have z6:=hbY.cell 6
 have z7:=hbY.cell 7
 have z8:=hbY.cell 8
 have z9:=hbY.cell 9
 have z10:=hbY.cell 10
 have z11:=hbY.cell 11
 have z12:=hbY.cell 12
 have z13:=hbY.cell 13
 have z14:=hbY.cell 14
 simp only[List.getElem?_toArray,List.getElem?_cons_zero,List.getElem?_cons_succ]at z0 z1 z2 z3 z4 z5 z6 z7 z8 z9 z10 z11 z12 z13 z14
 refine bodyPost_ret (v:=.tuple #[.agg #[.string ⟨#[]⟩,.bool false,.int .i64 0,.string ⟨#[]⟩,.string ⟨#[]⟩,.string ⟨#[]⟩,.int .i64 0,.string ⟨#[]⟩,.string ⟨#[]⟩,.string ⟨#[]⟩,.int .i64 0,.string ⟨#[]⟩,.string ⟨#[]⟩,.string ⟨#[]⟩,.slice none 0 0],.int .i64 n]) (by simp[results,Tryz.results9,go_sem,z0,z1,z2,z3,z4,z5,z6,z7,z8,z9,z10,z11,z12,z13,z14]) rfl ⟨?_,HBY.out⟩
 exact HR.out
theorem linked_what0 (h0:pof p=0)(h1:hsl p.who=false)(h2:hsl p.what=true)(hn:uf what≠0):
 Calls Tryz.prog 9 #[poV p pc cc,uiV who,uiV what] w fun e w'=>LdRet p pc cc who what e∧Below w.heap.size w w':=by
 obtain⟨V,hV⟩:∃V,V=(((w.alloc (.cells (poC p pc cc) 28)).alloc (.cells #[.string who.t,.string who.i] 23)).alloc (.cells #[.string what.t,.string what.i] 23)).alloc (.cells #[.string ⟨#[]⟩,.bool false,.int .i64 0,.string ⟨#[]⟩,.string ⟨#[]⟩,.string ⟨#[]⟩,.int .i64 0,.string ⟨#[]⟩,.string ⟨#[]⟩,.string ⟨#[]⟩,.int .i64 0,.string ⟨#[]⟩,.string ⟨#[]⟩,.string ⟨#[]⟩,.slice none 0 0] 28):=⟨_,rfl⟩
 have hbV:Below w.heap.size w V:=by rw[hV];exact kqx
 have HA:Hid (∀W,Below V.heap.size V W→Blk W w.heap.size (poC p pc cc) 28∧Blk W (w.heap.size+1) #[.string who.t,.string who.i] 23∧Blk W (w.heap.size+1+1) #[.string what.t,.string what.i] 23∧Blk W (w.heap.size+1+1+1) #[.string ⟨#[]⟩,.bool false,.int .i64 0,.string ⟨#[]⟩,.string ⟨#[]⟩,.string ⟨#[]⟩,.int .i64 0,.string ⟨#[]⟩,.string ⟨#[]⟩,.string ⟨#[]⟩,.int .i64 0,.string ⟨#[]⟩,.string ⟨#[]⟩,.string ⟨#[]⟩,.slice none 0 0] 28):=fun W hW=>by
  have h1:Blk V w.heap.size (poC p pc cc) 28:=by rw[hV];exact(((Blk.new w _ _ rfl).up kqx).up kqx).up kqx
  have h2:Blk V (w.heap.size+1) #[.string who.t,.string who.i] 23:=by rw[hV];refine((Blk.new (w.alloc _) _ _ ?_).up kqx).up kqx;simp
  have h3:Blk V (w.heap.size+1+1) #[.string what.t,.string what.i] 23:=by rw[hV];refine(Blk.new ((w.alloc _).alloc _) _ _ ?_).up kqx;simp
  have h4:Blk V (w.heap.size+1+1+1) #[.string ⟨#[]⟩,.bool false,.int .i64 0,.string ⟨#[]⟩,.string ⟨#[]⟩,.string ⟨#[]⟩,.int .i64 0,.string ⟨#[]⟩,.string ⟨#[]⟩,.string ⟨#[]⟩,.int .i64 0,.string ⟨#[]⟩,.string ⟨#[]⟩,.string ⟨#[]⟩,.slice none 0 0] 28:=by rw[hV];refine Blk.new (((w.alloc _).alloc _).alloc _) _ _ ?_;simp
  exact⟨h1.up hW,h2.up hW,h3.up hW,h4.up hW⟩
 have HC:=policyFault_any p pc cc V (h.up hbV)
 have HS1:=slotted_any p.who
 have HS2:=slotted_any p.what
 have HU1:=fun W=>ruf_any who W hu
 have HU2:=fun W=>ruf_any what W hv
 have HF1:=rfilled_any p.who who
 have HF2:=rfilled_any p.what what
 have hz:fif p.who who=0:=by unfold fif;rw[h1];rfl
 have HR:Hid (LdRet p pc cc who what (.returned (.tuple #[poZ,.int .i64 (uf what)]))):=by
  have hl:lkf p who what=uf what:=by unfold lkf;rw[if_pos h0,if_pos hz];unfold fif;rw[h2,if_pos rfl]
  show LdRet _ _ _ _ _ _
  unfold LdRet
  rw[hl,if_neg hn]
 rw[h0]at HC
 rw[h1]at HS1
 rw[h2]at HS2
 have hn2:(uf what == 0)=false:=by simpa using hn
 generalize uf what=n at *
 clear hn h0 h1 h2 hz HU1 h hu hv HF1 HF2
 unfold poC at hV
 unfold poV uiV at *
 try unfold scV at *
 go_enter Tryz.func9,Tryz.ntmps9
 go_wp2_with fail
 rw[←hV]
 clear hV
 refine HC.mono ?_
 rintro _ w1 ⟨rfl,hb1⟩
 clear HC
 obtain⟨hB0,hB1,hB2,hB3⟩:=HA.out w1 hb1
 obtain⟨x0,x1,x2,x3,x4,x5,x6,x7,x8,x9,x10,x11,x12,x13,x14⟩:=po_cells hB0
 have l0:w.heap.size<w1.heap.size:=hB0.lt
 have l2:w.heap.size+1+1<w1.heap.size:=hB2.lt
 clear hB0 hB1 hB2 hB3
 go_wp2_with fail
 refine(HS1 _).mono ?_
 rintro _ w2 ⟨rfl,hb2'⟩
 have hb2:Below V.heap.size V w2:=kqt hb1 hb2'
 clear HS1 hb2' l0 l2 x0 x1 x2 x3 x4 x5 x6 x7 x8 x9 x10 x11 x12 x13 x14
 obtain⟨hB0,hB1,hB2,hB3⟩:=HA.out w2 hb2
 obtain⟨x0,x1,x2,x3,x4,x5,x6,x7,x8,x9,x10,x11,x12,x13,x14⟩:=po_cells hB0
 have l0:w.heap.size<w2.heap.size:=hB0.lt
 have l2:w.heap.size+1+1<w2.heap.size:=hB2.lt
 clear hB0 hB1 hB2 hB3
 go_wp2_with fail
 refine(HS2 _).mono ?_
 rintro _ w3 ⟨rfl,hb3'⟩
 have hb3:Below V.heap.size V w3:=kqt hb2 hb3'
 clear HS2 hb3' l0 l2 x0 x1 x2 x3 x4 x5 x6 x7 x8 x9 x10 x11 x12 x13 x14
 obtain⟨hB0,hB1,hB2,hB3⟩:=HA.out w3 hb3
 have t0:=hB2.cell 0
 have t1:=hB2.cell 1
 simp only[List.getElem?_toArray,List.getElem?_cons_zero,List.getElem?_cons_succ]at t0 t1
 have l0:w.heap.size<w3.heap.size:=hB0.lt
 have l2:w.heap.size+1+1<w3.heap.size:=hB2.lt
 clear hB0 hB1 hB2 hB3
 go_wp2_with fail
 refine(HU2 _).mono ?_
 rintro _ w4 ⟨rfl,hb4'⟩
 have hb4:Below V.heap.size V w4:=kqt hb3 hb4'
 clear HU2 hb4' l0 l2 t0 t1
 obtain⟨hB0,hB1,hB2,hB3⟩:=HA.out w4 hb4
 have HZ:Hid (Blk w4 (w.heap.size+1+1+1) #[.string ⟨#[]⟩,.bool false,.int .i64 0,.string ⟨#[]⟩,.string ⟨#[]⟩,.string ⟨#[]⟩,.int .i64 0,.string ⟨#[]⟩,.string ⟨#[]⟩,.string ⟨#[]⟩,.int .i64 0,.string ⟨#[]⟩,.string ⟨#[]⟩,.string ⟨#[]⟩,.slice none 0 0] 28):=hB3
 have y0:=hB3.cell 0
 have f0:=hB3.free 0
 have y1:=hB3.cell 1
 have f1:=hB3.free 1
 have y2:=hB3.cell 2
 have f2:=hB3.free 2
 have y3:=hB3.cell 3
 have f3:=hB3.free 3
 have y4:=hB3.cell 4
 have f4:=hB3.free 4
 have y5:=hB3.cell 5
 have f5:=hB3.free 5
 have y6:=hB3.cell 6
 have f6:=hB3.free 6
 have y7:=hB3.cell 7
 have f7:=hB3.free 7
 have y8:=hB3.cell 8
 have f8:=hB3.free 8
 have y9:=hB3.cell 9
 have f9:=hB3.free 9
 have y10:=hB3.cell 10
 have f10:=hB3.free 10
 have y11:=hB3.cell 11
 have f11:=hB3.free 11
 have y12:=hB3.cell 12
 have f12:=hB3.free 12
 have y13:=hB3.cell 13
 have f13:=hB3.free 13
 have y14:=hB3.cell 14
 have f14:=hB3.free 14
 simp only[List.getElem?_toArray,List.getElem?_cons_zero,List.getElem?_cons_succ]at y0 y1 y2 y3 y4 y5 y6 y7 y8 y9 y10 y11 y12 y13 y14
 clear HA hB0 hB1 hB2 hB3
 go_wp2
 obtain⟨Y,hY⟩:∃Y,Y=(((((((((((((((w4).setCell ⟨(w.heap.size+1+1+1),0,none⟩ (.string ⟨#[]⟩)).setCell ⟨(w.heap.size+1+1+1),1,none⟩ (.bool false)).setCell ⟨(w.heap.size+1+1+1),2,none⟩ (.int .i64 0)).setCell ⟨(w.heap.size+1+1+1),3,none⟩ (.string ⟨#[]⟩)).setCell ⟨(w.heap.size+1+1+1),4,none⟩ (.string ⟨#[]⟩)).setCell ⟨(w.heap.size+1+1+1),5,none⟩ (.string ⟨#[]⟩)).setCell ⟨(w.heap.size+1+1+1),6,none⟩ (.int .i64 0)).setCell ⟨(w.heap.size+1+1+1),7,none⟩ (.string ⟨#[]⟩)).setCell ⟨(w.heap.size+1+1+1),8,none⟩ (.string ⟨#[]⟩)).setCell ⟨(w.heap.size+1+1+1),9,none⟩ (.string ⟨#[]⟩)).setCell ⟨(w.heap.size+1+1+1),10,none⟩ (.int .i64 0)).setCell ⟨(w.heap.size+1+1+1),11,none⟩ (.string ⟨#[]⟩)).setCell ⟨(w.heap.size+1+1+1),12,none⟩ (.string ⟨#[]⟩)).setCell ⟨(w.heap.size+1+1+1),13,none⟩ (.string ⟨#[]⟩)).setCell ⟨(w.heap.size+1+1+1),14,none⟩ (.slice none 0 0):=⟨_,rfl⟩
 rw[←hY]
 obtain⟨hbY,hkY⟩:Blk Y (w.heap.size+1+1+1) #[.string ⟨#[]⟩,.bool false,.int .i64 0,.string ⟨#[]⟩,.string ⟨#[]⟩,.string ⟨#[]⟩,.int .i64 0,.string ⟨#[]⟩,.string ⟨#[]⟩,.string ⟨#[]⟩,.int .i64 0,.string ⟨#[]⟩,.string ⟨#[]⟩,.string ⟨#[]⟩,.slice none 0 0] 28∧Keep (fun x=>x=(w.heap.size+1+1+1)) w4 Y:=by rw[hY];exact⟨lk_cells15 HZ.out (.string ⟨#[]⟩) (.bool false) (.int .i64 0) (.string ⟨#[]⟩) (.string ⟨#[]⟩) (.string ⟨#[]⟩) (.int .i64 0) (.string ⟨#[]⟩) (.string ⟨#[]⟩) (.string ⟨#[]⟩) (.int .i64 0) (.string ⟨#[]⟩) (.string ⟨#[]⟩) (.string ⟨#[]⟩) (.slice none 0 0),lk_keep15 _ _ _ _ _ _ _ _ _ _ _ _ _ _ _ _ _⟩
 have HBY:Hid (Below w.heap.size w Y):=((kqt hbV hb4)).trans (hkY.below ((kqt hbV hb4)).size (fun a e=>by have h2:a=(w.heap.size+1+1+1):=e;omega))
 clear hY hkY
 have z0:=hbY.cell 0
 have z1:=hbY.cell 1
 have z2:=hbY.cell 2
 have z3:=hbY.cell 3
 have z4:=hbY.cell 4
 have z5:=hbY.cell 5
 have z6:=hbY.cell 6
 have z7:=hbY.cell 7
 have z8:=hbY.cell 8
 have z9:=hbY.cell 9
 have z10:=hbY.cell 10
 have z11:=hbY.cell 11
 have z12:=hbY.cell 12
 have z13:=hbY.cell 13
 have z14:=hbY.cell 14
 simp only[List.getElem?_toArray,List.getElem?_cons_zero,List.getElem?_cons_succ]at z0 z1 z2 z3 z4 z5 z6 z7 z8 z9 z10 z11 z12 z13 z14
 refine bodyPost_ret (v:=.tuple #[.agg #[.string ⟨#[]⟩,.bool false,.int .i64 0,.string ⟨#[]⟩,.string ⟨#[]⟩,.string ⟨#[]⟩,.int .i64 0,.string ⟨#[]⟩,.string ⟨#[]⟩,.string ⟨#[]⟩,.int .i64 0,.string ⟨#[]⟩,.string ⟨#[]⟩,.string ⟨#[]⟩,.slice none 0 0],.int .i64 n]) (by simp[results,Tryz.results9,go_sem,z0,z1,z2,z3,z4,z5,z6,z7,z8,z9,z10,z11,z12,z13,z14]) rfl ⟨?_,HBY.out⟩
 exact HR.out
theorem linked_what1 (h0:pof p=0)(h1:hsl p.who=true)(h3:uf who=0)(h2:hsl p.what=true)(hn:uf what≠0):
 Calls Tryz.prog 9 #[poV p pc cc,uiV who,uiV what] w fun e w'=>LdRet p pc cc who what e∧Below w.heap.size w w':=by
 obtain⟨V,hV⟩:∃V,V=(((w.alloc (.cells (poC p pc cc) 28)).alloc (.cells #[.string who.t,.string who.i] 23)).alloc (.cells #[.string what.t,.string what.i] 23)).alloc (.cells #[.string ⟨#[]⟩,.bool false,.int .i64 0,.string ⟨#[]⟩,.string ⟨#[]⟩,.string ⟨#[]⟩,.int .i64 0,.string ⟨#[]⟩,.string ⟨#[]⟩,.string ⟨#[]⟩,.int .i64 0,.string ⟨#[]⟩,.string ⟨#[]⟩,.string ⟨#[]⟩,.slice none 0 0] 28):=⟨_,rfl⟩
 have hbV:Below w.heap.size w V:=by rw[hV];exact kqx
 have HA:Hid (∀W,Below V.heap.size V W→Blk W w.heap.size (poC p pc cc) 28∧Blk W (w.heap.size+1) #[.string who.t,.string who.i] 23∧Blk W (w.heap.size+1+1) #[.string what.t,.string what.i] 23∧Blk W (w.heap.size+1+1+1) #[.string ⟨#[]⟩,.bool false,.int .i64 0,.string ⟨#[]⟩,.string ⟨#[]⟩,.string ⟨#[]⟩,.int .i64 0,.string ⟨#[]⟩,.string ⟨#[]⟩,.string ⟨#[]⟩,.int .i64 0,.string ⟨#[]⟩,.string ⟨#[]⟩,.string ⟨#[]⟩,.slice none 0 0] 28):=fun W hW=>by
  have h1:Blk V w.heap.size (poC p pc cc) 28:=by rw[hV];exact(((Blk.new w _ _ rfl).up kqx).up kqx).up kqx
  have h2:Blk V (w.heap.size+1) #[.string who.t,.string who.i] 23:=by rw[hV];refine((Blk.new (w.alloc _) _ _ ?_).up kqx).up kqx;simp
  have h3:Blk V (w.heap.size+1+1) #[.string what.t,.string what.i] 23:=by rw[hV];refine(Blk.new ((w.alloc _).alloc _) _ _ ?_).up kqx;simp
  have h4:Blk V (w.heap.size+1+1+1) #[.string ⟨#[]⟩,.bool false,.int .i64 0,.string ⟨#[]⟩,.string ⟨#[]⟩,.string ⟨#[]⟩,.int .i64 0,.string ⟨#[]⟩,.string ⟨#[]⟩,.string ⟨#[]⟩,.int .i64 0,.string ⟨#[]⟩,.string ⟨#[]⟩,.string ⟨#[]⟩,.slice none 0 0] 28:=by rw[hV];refine Blk.new (((w.alloc _).alloc _).alloc _) _ _ ?_;simp
  exact⟨h1.up hW,h2.up hW,h3.up hW,h4.up hW⟩
 have HC:=policyFault_any p pc cc V (h.up hbV)
 have HS1:=slotted_any p.who
 have HS2:=slotted_any p.what
 have HU1:=fun W=>ruf_any who W hu
 have HU2:=fun W=>ruf_any what W hv
 have HF1:=rfilled_any p.who who
 have HF2:=rfilled_any p.what what
 have hz:fif p.who who=0:=by unfold fif;rw[h1,if_pos rfl];exact h3
 have HR:Hid (LdRet p pc cc who what (.returned (.tuple #[poZ,.int .i64 (uf what)]))):=by
  have hl:lkf p who what=uf what:=by unfold lkf;rw[if_pos h0,if_pos hz];unfold fif;rw[h2,if_pos rfl]
  show LdRet _ _ _ _ _ _
  unfold LdRet
  rw[hl,if_neg hn]
 rw[h0]at HC
 rw[h1]at HS1
 rw[h2]at HS2
 rw[h3]at HU1
 have hn2:(uf what == 0)=false:=by simpa using hn
 generalize uf what=n at *
 clear hn h0 h1 h2 hz h3 h hu hv HF1 HF2
 unfold poC at hV
 unfold poV uiV at *
 try unfold scV at *
 go_enter Tryz.func9,Tryz.ntmps9
 go_wp2_with fail
 rw[←hV]
 clear hV
 refine HC.mono ?_
 rintro _ w1 ⟨rfl,hb1⟩
 clear HC
 obtain⟨hB0,hB1,hB2,hB3⟩:=HA.out w1 hb1
 obtain⟨x0,x1,x2,x3,x4,x5,x6,x7,x8,x9,x10,x11,x12,x13,x14⟩:=po_cells hB0
 have l0:w.heap.size<w1.heap.size:=hB0.lt
 have l2:w.heap.size+1+1<w1.heap.size:=hB2.lt
 clear hB0 hB1 hB2 hB3
 go_wp2_with fail
 refine(HS1 _).mono ?_
 rintro _ w2 ⟨rfl,hb2'⟩
 have hb2:Below V.heap.size V w2:=kqt hb1 hb2'
 clear HS1 hb2' l0 l2 x0 x1 x2 x3 x4 x5 x6 x7 x8 x9 x10 x11 x12 x13 x14
 obtain⟨hB0,hB1,hB2,hB3⟩:=HA.out w2 hb2
 have u0:=hB1.cell 0
 have u1:=hB1.cell 1
 simp only[List.getElem?_toArray,List.getElem?_cons_zero,List.getElem?_cons_succ]at u0 u1
 have l0:w.heap.size<w2.heap.size:=hB0.lt
 have l2:w.heap.size+1+1<w2.heap.size:=hB2.lt
 clear hB0 hB1 hB2 hB3
 go_wp2_with fail
 refine(HU1 _).mono ?_
 rintro _ w3 ⟨rfl,hb3'⟩
 have hb3:Below V.heap.size V w3:=kqt hb2 hb3'
 clear HU1 hb3' l0 l2 u0 u1
 obtain⟨hB0,hB1,hB2,hB3⟩:=HA.out w3 hb3
 obtain⟨x0,x1,x2,x3,x4,x5,x6,x7,x8,x9,x10,x11,x12,x13,x14⟩:=po_cells hB0
 have l0:w.heap.size<w3.heap.size:=hB0.lt
 have l2:w.heap.size+1+1<w3.heap.size:=hB2.lt
 clear hB0 hB1 hB2 hB3
 go_wp2_with fail
 refine(HS2 _).mono ?_
 rintro _ w4 ⟨rfl,hb4'⟩
 have hb4:Below V.heap.size V w4:=kqt hb3 hb4'
 clear HS2 hb4' l0 l2 x0 x1 x2 x3 x4 x5 x6 x7 x8 x9 x10 x11 x12 x13 x14
 obtain⟨hB0,hB1,hB2,hB3⟩:=HA.out w4 hb4
 have t0:=hB2.cell 0
 have t1:=hB2.cell 1
 simp only[List.getElem?_toArray,List.getElem?_cons_zero,List.getElem?_cons_succ]at t0 t1
 have l0:w.heap.size<w4.heap.size:=hB0.lt
 have l2:w.heap.size+1+1<w4.heap.size:=hB2.lt
 clear hB0 hB1 hB2 hB3
 go_wp2_with fail
 refine(HU2 _).mono ?_
 rintro _ w5 ⟨rfl,hb5'⟩
 have hb5:Below V.heap.size V w5:=kqt hb4 hb5'
 clear HU2 hb5' l0 l2 t0 t1
 obtain⟨hB0,hB1,hB2,hB3⟩:=HA.out w5 hb5
 have HZ:Hid (Blk w5 (w.heap.size+1+1+1) #[.string ⟨#[]⟩,.bool false,.int .i64 0,.string ⟨#[]⟩,.string ⟨#[]⟩,.string ⟨#[]⟩,.int .i64 0,.string ⟨#[]⟩,.string ⟨#[]⟩,.string ⟨#[]⟩,.int .i64 0,.string ⟨#[]⟩,.string ⟨#[]⟩,.string ⟨#[]⟩,.slice none 0 0] 28):=hB3
 have y0:=hB3.cell 0
 have f0:=hB3.free 0
 have y1:=hB3.cell 1
 have f1:=hB3.free 1
 have y2:=hB3.cell 2
 have f2:=hB3.free 2
 have y3:=hB3.cell 3
 have f3:=hB3.free 3
 have y4:=hB3.cell 4
 have f4:=hB3.free 4
 have y5:=hB3.cell 5
 have f5:=hB3.free 5
 have y6:=hB3.cell 6
 have f6:=hB3.free 6
 have y7:=hB3.cell 7
 have f7:=hB3.free 7
 have y8:=hB3.cell 8
 have f8:=hB3.free 8
 have y9:=hB3.cell 9
 have f9:=hB3.free 9
 have y10:=hB3.cell 10
 have f10:=hB3.free 10
 have y11:=hB3.cell 11
 have f11:=hB3.free 11
 have y12:=hB3.cell 12
 have f12:=hB3.free 12
 have y13:=hB3.cell 13
 have f13:=hB3.free 13
 have y14:=hB3.cell 14
 have f14:=hB3.free 14
 simp only[List.getElem?_toArray,List.getElem?_cons_zero,List.getElem?_cons_succ]at y0 y1 y2 y3 y4 y5 y6 y7 y8 y9 y10 y11 y12 y13 y14
 clear HA hB0 hB1 hB2 hB3
 go_wp2
 obtain⟨Y,hY⟩:∃Y,Y=(((((((((((((((w5).setCell ⟨(w.heap.size+1+1+1),0,none⟩ (.string ⟨#[]⟩)).setCell ⟨(w.heap.size+1+1+1),1,none⟩ (.bool false)).setCell ⟨(w.heap.size+1+1+1),2,none⟩ (.int .i64 0)).setCell ⟨(w.heap.size+1+1+1),3,none⟩ (.string ⟨#[]⟩)).setCell ⟨(w.heap.size+1+1+1),4,none⟩ (.string ⟨#[]⟩)).setCell ⟨(w.heap.size+1+1+1),5,none⟩ (.string ⟨#[]⟩)).setCell ⟨(w.heap.size+1+1+1),6,none⟩ (.int .i64 0)).setCell ⟨(w.heap.size+1+1+1),7,none⟩ (.string ⟨#[]⟩)).setCell ⟨(w.heap.size+1+1+1),8,none⟩ (.string ⟨#[]⟩)).setCell ⟨(w.heap.size+1+1+1),9,none⟩ (.string ⟨#[]⟩)).setCell ⟨(w.heap.size+1+1+1),10,none⟩ (.int .i64 0)).setCell ⟨(w.heap.size+1+1+1),11,none⟩ (.string ⟨#[]⟩)).setCell ⟨(w.heap.size+1+1+1),12,none⟩ (.string ⟨#[]⟩)).setCell ⟨(w.heap.size+1+1+1),13,none⟩ (.string ⟨#[]⟩)).setCell ⟨(w.heap.size+1+1+1),14,none⟩ (.slice none 0 0):=⟨_,rfl⟩
 rw[←hY]
 obtain⟨hbY,hkY⟩:Blk Y (w.heap.size+1+1+1) #[.string ⟨#[]⟩,.bool false,.int .i64 0,.string ⟨#[]⟩,.string ⟨#[]⟩,.string ⟨#[]⟩,.int .i64 0,.string ⟨#[]⟩,.string ⟨#[]⟩,.string ⟨#[]⟩,.int .i64 0,.string ⟨#[]⟩,.string ⟨#[]⟩,.string ⟨#[]⟩,.slice none 0 0] 28∧Keep (fun x=>x=(w.heap.size+1+1+1)) w5 Y:=by rw[hY];exact⟨lk_cells15 HZ.out (.string ⟨#[]⟩) (.bool false) (.int .i64 0) (.string ⟨#[]⟩) (.string ⟨#[]⟩) (.string ⟨#[]⟩) (.int .i64 0) (.string ⟨#[]⟩) (.string ⟨#[]⟩) (.string ⟨#[]⟩) (.int .i64 0) (.string ⟨#[]⟩) (.string ⟨#[]⟩) (.string ⟨#[]⟩) (.slice none 0 0),lk_keep15 _ _ _ _ _ _ _ _ _ _ _ _ _ _ _ _ _⟩
 have HBY:Hid (Below w.heap.size w Y):=((kqt hbV hb5)).trans (hkY.below ((kqt hbV hb5)).size (fun a e=>by have h2:a=(w.heap.size+1+1+1):=e;omega))
 clear hY hkY
 have z0:=hbY.cell 0
 have z1:=hbY.cell 1
 have z2:=hbY.cell 2
 have z3:=hbY.cell 3
 have z4:=hbY.cell 4
 have z5:=hbY.cell 5
 have z6:=hbY.cell 6
 have z7:=hbY.cell 7
 have z8:=hbY.cell 8
 have z9:=hbY.cell 9
 have z10:=hbY.cell 10
 have z11:=hbY.cell 11
 have z12:=hbY.cell 12
 have z13:=hbY.cell 13
 have z14:=hbY.cell 14
 simp only[List.getElem?_toArray,List.getElem?_cons_zero,List.getElem?_cons_succ]at z0 z1 z2 z3 z4 z5 z6 z7 z8 z9 z10 z11 z12 z13 z14
 refine bodyPost_ret (v:=.tuple #[.agg #[.string ⟨#[]⟩,.bool false,.int .i64 0,.string ⟨#[]⟩,.string ⟨#[]⟩,.string ⟨#[]⟩,.int .i64 0,.string ⟨#[]⟩,.string ⟨#[]⟩,.string ⟨#[]⟩,.int .i64 0,.string ⟨#[]⟩,.string ⟨#[]⟩,.string ⟨#[]⟩,.slice none 0 0],.int .i64 n]) (by simp[results,Tryz.results9,go_sem,z0,z1,z2,z3,z4,z5,z6,z7,z8,z9,z10,z11,z12,z13,z14]) rfl ⟨?_,HBY.out⟩
 exact HR.out
theorem linked_ok00 (h0:pof p=0)(h1:hsl p.who=false)(h2:hsl p.what=false):
 Calls Tryz.prog 9 #[poV p pc cc,uiV who,uiV what] w fun e w'=>LdRet p pc cc who what e∧Below w.heap.size w w':=by
 obtain⟨V,hV⟩:∃V,V=(((w.alloc (.cells (poC p pc cc) 28)).alloc (.cells #[.string who.t,.string who.i] 23)).alloc (.cells #[.string what.t,.string what.i] 23)).alloc (.cells #[.string ⟨#[]⟩,.bool false,.int .i64 0,.string ⟨#[]⟩,.string ⟨#[]⟩,.string ⟨#[]⟩,.int .i64 0,.string ⟨#[]⟩,.string ⟨#[]⟩,.string ⟨#[]⟩,.int .i64 0,.string ⟨#[]⟩,.string ⟨#[]⟩,.string ⟨#[]⟩,.slice none 0 0] 28):=⟨_,rfl⟩
 have hbV:Below w.heap.size w V:=by rw[hV];exact kqx
 have HA:Hid (∀W,Below V.heap.size V W→Blk W w.heap.size (poC p pc cc) 28∧Blk W (w.heap.size+1) #[.string who.t,.string who.i] 23∧Blk W (w.heap.size+1+1) #[.string what.t,.string what.i] 23∧Blk W (w.heap.size+1+1+1) #[.string ⟨#[]⟩,.bool false,.int .i64 0,.string ⟨#[]⟩,.string ⟨#[]⟩,.string ⟨#[]⟩,.int .i64 0,.string ⟨#[]⟩,.string ⟨#[]⟩,.string ⟨#[]⟩,.int .i64 0,.string ⟨#[]⟩,.string ⟨#[]⟩,.string ⟨#[]⟩,.slice none 0 0] 28):=fun W hW=>by
  have h1:Blk V w.heap.size (poC p pc cc) 28:=by rw[hV];exact(((Blk.new w _ _ rfl).up kqx).up kqx).up kqx
  have h2:Blk V (w.heap.size+1) #[.string who.t,.string who.i] 23:=by rw[hV];refine((Blk.new (w.alloc _) _ _ ?_).up kqx).up kqx;simp
  have h3:Blk V (w.heap.size+1+1) #[.string what.t,.string what.i] 23:=by rw[hV];refine(Blk.new ((w.alloc _).alloc _) _ _ ?_).up kqx;simp
  have h4:Blk V (w.heap.size+1+1+1) #[.string ⟨#[]⟩,.bool false,.int .i64 0,.string ⟨#[]⟩,.string ⟨#[]⟩,.string ⟨#[]⟩,.int .i64 0,.string ⟨#[]⟩,.string ⟨#[]⟩,.string ⟨#[]⟩,.int .i64 0,.string ⟨#[]⟩,.string ⟨#[]⟩,.string ⟨#[]⟩,.slice none 0 0] 28:=by rw[hV];refine Blk.new (((w.alloc _).alloc _).alloc _) _ _ ?_;simp
  exact⟨h1.up hW,h2.up hW,h3.up hW,h4.up hW⟩
 have HC:=policyFault_any p pc cc V (h.up hbV)
 have HS1:=slotted_any p.who
 have HS2:=slotted_any p.what
 have HU1:=fun W=>ruf_any who W hu
 have HU2:=fun W=>ruf_any what W hv
 have HF1:=rfilled_any p.who who
 have HF2:=rfilled_any p.what what
 have hz:fif p.who who=0:=by unfold fif;rw[h1];rfl
 have hy:fif p.what what=0:=by unfold fif;rw[h2];rfl
 have HR:Hid (LdRet p pc cc who what (.returned (.tuple #[poV ⟨p.nm,p.fb,fil p.who who,p.act,fil p.what what,p.cs⟩ pc cc,.int .i64 0]))):=by
  have hl:lkf p who what=0:=by unfold lkf;rw[if_pos h0,if_pos hz];exact hy
  show LdRet _ _ _ _ _ _
  unfold LdRet
  rw[if_pos hl]
  rfl
 rw[h0]at HC
 rw[h1]at HS1
 rw[h2]at HS2
 generalize fil p.who who=S at *
 generalize fil p.what what=U at *
 clear h0 h1 h2 hz hy HU1 HU2 h hu hv
 unfold poC at hV
 unfold poV uiV at *
 try unfold scV at *
 go_enter Tryz.func9,Tryz.ntmps9
 go_wp2_with fail
 rw[←hV]
 clear hV
 refine HC.mono ?_
 rintro _ w1 ⟨rfl,hb1⟩
 clear HC
 obtain⟨hB0,hB1,hB2,hB3⟩:=HA.out w1 hb1
 obtain⟨x0,x1,x2,x3,x4,x5,x6,x7,x8,x9,x10,x11,x12,x13,x14⟩:=po_cells hB0
 have l0:w.heap.size<w1.heap.size:=hB0.lt
 have l2:w.heap.size+1+1<w1.heap.size:=hB2.lt
 clear hB0 hB1 hB2 hB3
 go_wp2_with fail
 refine(HS1 _).mono ?_
 rintro _ w2 ⟨rfl,hb2'⟩
 have hb2:Below V.heap.size V w2:=kqt hb1 hb2'
 clear HS1 hb2' l0 l2 x0 x1 x2 x3 x4 x5 x6 x7 x8 x9 x10 x11 x12 x13 x14
 obtain⟨hB0,hB1,hB2,hB3⟩:=HA.out w2 hb2
 obtain⟨x0,x1,x2,x3,x4,x5,x6,x7,x8,x9,x10,x11,x12,x13,x14⟩:=po_cells hB0
 have l0:w.heap.size<w2.heap.size:=hB0.lt
 have l2:w.heap.size+1+1<w2.heap.size:=hB2.lt
 clear hB0 hB1 hB2 hB3
 go_wp2_with fail
 refine(HS2 _).mono ?_
 rintro _ w3 ⟨rfl,hb3'⟩
 have hb3:Below V.heap.size V w3:=kqt hb2 hb3'
 clear HS2 hb3' l0 l2 x0 x1 x2 x3 x4 x5 x6 x7 x8 x9 x10 x11 x12 x13 x14
 obtain⟨hB0,hB1,hB2,hB3⟩:=HA.out w3 hb3
 obtain⟨x0,x1,x2,x3,x4,x5,x6,x7,x8,x9,x10,x11,x12,x13,x14⟩:=po_cells hB0
 have u0:=hB1.cell 0
 have u1:=hB1.cell 1
 simp only[List.getElem?_toArray,List.getElem?_cons_zero,List.getElem?_cons_succ]at u0 u1
 have l0:w.heap.size<w3.heap.size:=hB0.lt
 have l2:w.heap.size+1+1<w3.heap.size:=hB2.lt
 clear hB0 hB1 hB2 hB3
 go_wp2_with fail
 refine(HF1 _).mono ?_
 rintro _ w4 ⟨rfl,hb4'⟩
 have hb4:Below V.heap.size V w4:=kqt hb3 hb4'
 clear HF1 hb4' l0 l2 x0 x1 x2 x3 x4 x5 x6 x7 x8 x9 x10 x11 x12 x13 x14 u0 u1
 obtain⟨hB0,hB1,hB2,hB3⟩:=HA.out w4 hb4
 obtain⟨x0,x1,x2,x3,x4,x5,x6,x7,x8,x9,x10,x11,x12,x13,x14⟩:=po_cells hB0
 have f2:=hB0.free 2
 have f3:=hB0.free 3
 have f4:=hB0.free 4
 have f5:=hB0.free 5
 have t0:=hB2.cell 0
 have t1:=hB2.cell 1
 simp only[List.getElem?_toArray,List.getElem?_cons_zero,List.getElem?_cons_succ]at t0 t1
 have l0:w.heap.size<w4.heap.size:=hB0.lt
 have l2:w.heap.size+1+1<w4.heap.size:=hB2.lt
 have n2:¬w.heap.size=w.heap.size+1+1:=by omega
 have HB:Hid (Blk w4 w.heap.size #[.string p.nm,.bool p.fb,.int .i64 p.who.op,.string p.who.ty,.string p.who.u.t,.string p.who.u.i,.int .i64 p.act.op,.string p.act.ty,.string p.act.u.t,.string p.act.u.i,.int .i64 p.what.op,.string p.what.ty,.string p.what.u.t,.string p.what.u.i,.slice pc p.cs.length cc] 28∧Blk w4 (w.heap.size+1+1+1) #[.string ⟨#[]⟩,.bool false,.int .i64 0,.string ⟨#[]⟩,.string ⟨#[]⟩,.string ⟨#[]⟩,.int .i64 0,.string ⟨#[]⟩,.string ⟨#[]⟩,.string ⟨#[]⟩,.int .i64 0,.string ⟨#[]⟩,.string ⟨#[]⟩,.string ⟨#[]⟩,.slice none 0 0] 28):=⟨hB0,hB3⟩
 clear hB0 hB1 hB2 hB3 HA
 go_wp2_with fail
 obtain⟨X1,hX1⟩:∃X,X=((((w4).setCell ⟨w.heap.size,2,none⟩ (.int .i64 S.op)).setCell ⟨w.heap.size,3,none⟩ (.string S.ty)).setCell ⟨w.heap.size,4,none⟩ (.string S.u.t)).setCell ⟨w.heap.size,5,none⟩ (.string S.u.i):=⟨_,rfl⟩
 rw[←hX1]
 have hk1:Keep (fun x=>x=w.heap.size) w4 X1:=by rw[hX1];exact(Keep.trans (Keep.trans (Keep.trans (keep_set _ w.heap.size 2 _) (keep_set _ w.heap.size 3 _) (fun _ e=>.inl e)) (keep_set _ w.heap.size 4 _) (fun _ e=>.inl e)) (keep_set _ w.heap.size 5 _) (fun _ e=>.inl e))
 have HB1:Hid (Blk X1 w.heap.size #[.string p.nm,.bool p.fb,.int .i64 S.op,.string S.ty,.string S.u.t,.string S.u.i,.int .i64 p.act.op,.string p.act.ty,.string p.act.u.t,.string p.act.u.i,.int .i64 p.what.op,.string p.what.ty,.string p.what.u.t,.string p.what.u.i,.slice pc p.cs.length cc] 28∧Blk X1 (w.heap.size+1+1+1) #[.string ⟨#[]⟩,.bool false,.int .i64 0,.string ⟨#[]⟩,.string ⟨#[]⟩,.string ⟨#[]⟩,.int .i64 0,.string ⟨#[]⟩,.string ⟨#[]⟩,.string ⟨#[]⟩,.int .i64 0,.string ⟨#[]⟩,.string ⟨#[]⟩,.string ⟨#[]⟩,.slice none 0 0] 28):=⟨by rw[hX1];exact((((HB.out.1.set rfl).1.set rfl).1.set rfl).1.set rfl).1,HB.out.2.keep hk1 (by omega)⟩
 have hbX1:Below w.heap.size w X1:=(kqt hbV hb4).trans (hk1.below (kqt hbV hb4).size (fun a e=>by have h2:a=w.heap.size:=e;omega))
 clear hX1 hk1 HB t0 t1 l0 l2 n2 f2 f3 f4 f5 x0 x1 x2 x3 x4 x5 x6 x7 x8 x9 x10 x11 x12 x13 x14
 refine(HF2 _).mono ?_
 rintro _ v1 ⟨rfl,hv1'⟩
 have hbv1:Below w.heap.size w v1:=kqt hbX1 hv1'
 have HBv:Hid (Blk v1 w.heap.size #[.string p.nm,.bool p.fb,.int .i64 S.op,.string S.ty,.string S.u.t,.string S.u.i,.int .i64 p.act.op,.string p.act.ty,.string p.act.u.t,.string p.act.u.i,.int .i64 p.what.op,.string p.what.ty,.string p.what.u.t,.string p.what.u.i,.slice pc p.cs.length cc] 28):=HB1.out.1.up hv1'
 have HZv:Hid (Blk v1 (w.heap.size+1+1+1) #[.string ⟨#[]⟩,.bool false,.int .i64 0,.string ⟨#[]⟩,.string ⟨#[]⟩,.string ⟨#[]⟩,.int .i64 0,.string ⟨#[]⟩,.string ⟨#[]⟩,.string ⟨#[]⟩,.int .i64 0,.string ⟨#[]⟩,.string ⟨#[]⟩,.string ⟨#[]⟩,.slice none 0 0] 28):=HB1.out.2.up hv1'
 have x0:v1.cell? ⟨w.heap.size,0,none⟩=some (.string p.nm):=HBv.out.cell 0
 have x1:v1.cell? ⟨w.heap.size,1,none⟩=some (.bool p.fb):=HBv.out.cell 1
 have x2:v1.cell? ⟨w.heap.size,2,none⟩=some (.int .i64 S.op):=HBv.out.cell 2
 have x3:v1.cell? ⟨w.heap.size,3,none⟩=some (.string S.ty):=HBv.out.cell 3
 have x4:v1.cell? ⟨w.heap.size,4,none⟩=some (.string S.u.t):=HBv.out.cell 4
 have x5:v1.cell? ⟨w.heap.size,5,none⟩=some (.string S.u.i):=HBv.out.cell 5
 have x6:v1.cell? ⟨w.heap.size,6,none⟩=some (.int .i64 p.act.op):=HBv.out.cell 6
 have x7:v1.cell? ⟨w.heap.size,7,none⟩=some (.string p.act.ty):=HBv.out.cell 7
 have x8:v1.cell? ⟨w.heap.size,8,none⟩=some (.string p.act.u.t):=HBv.out.cell 8
 have x9:v1.cell? ⟨w.heap.size,9,none⟩=some (.string p.act.u.i):=HBv.out.cell 9
 have x10:v1.cell? ⟨w.heap.size,10,none⟩=some (.int .i64 p.what.op):=HBv.out.cell 10
 have x11:v1.cell? ⟨w.heap.size,11,none⟩=some (.string p.what.ty):=HBv.out.cell 11
 have x12:v1.cell? ⟨w.heap.size,12,none⟩=some (.string p.what.u.t):=HBv.out.cell 12
 have x13:v1.cell? ⟨w.heap.size,13,none⟩=some (.string p.what.u.i):=HBv.out.cell 13
 have x14:v1.cell? ⟨w.heap.size,14,none⟩=some (.slice pc p.cs.length cc):=HBv.out.cell 14
 have y0:v1.cell? ⟨(w.heap.size+1+1+1),0,none⟩=some (.string ⟨#[]⟩):=HZv.out.cell 0
 have f0:=HZv.out.free 0
 have y1:v1.cell? ⟨(w.heap.size+1+1+1),1,none⟩=some (.bool false):=HZv.out.cell 1
 have f1:=HZv.out.free 1
 have y2:v1.cell? ⟨(w.heap.size+1+1+1),2,none⟩=some (.int .i64 0):=HZv.out.cell 2
 have f2:=HZv.out.free 2
 have y3:v1.cell? ⟨(w.heap.size+1+1+1),3,none⟩=some (.string ⟨#[]⟩):=HZv.out.cell 3
 have f3:=HZv.out.free 3
 have y4:v1.cell? ⟨(w.heap.size+1+1+1),4,none⟩=some (.string ⟨#[]⟩):=HZv.out.cell 4
 have f4:=HZv.out.free 4
 have y5:v1.cell? ⟨(w.heap.size+1+1+1),5,none⟩=some (.string ⟨#[]⟩):=HZv.out.cell 5
 have f5:=HZv.out.free 5
 have y6:v1.cell? ⟨(w.heap.size+1+1+1),6,none⟩=some (.int .i64 0):=HZv.out.cell 6
 have f6:=HZv.out.free 6
 have y7:v1.cell? ⟨(w.heap.size+1+1+1),7,none⟩=some (.string ⟨#[]⟩):=HZv.out.cell 7
 have f7:=HZv.out.free 7
 have y8:v1.cell? ⟨(w.heap.size+1+1+1),8,none⟩=some (.string ⟨#[]⟩):=HZv.out.cell 8
 have f8:=HZv.out.free 8
 have y9:v1.cell? ⟨(w.heap.size+1+1+1),9,none⟩=some (.string ⟨#[]⟩):=HZv.out.cell 9
 have f9:=HZv.out.free 9
 have y10:v1.cell? ⟨(w.heap.size+1+1+1),10,none⟩=some (.int .i64 0):=HZv.out.cell 10
 have f10:=HZv.out.free 10
 have y11:v1.cell? ⟨(w.heap.size+1+1+1),11,none⟩=some (.string ⟨#[]⟩):=HZv.out.cell 11
 have f11:=HZv.out.free 11
 have y12:v1.cell? ⟨(w.heap.size+1+1+1),12,none⟩=some (.string ⟨#[]⟩):=HZv.out.cell 12
 have f12:=HZv.out.free 12
 have y13:v1.cell? ⟨(w.heap.size+1+1+1),13,none⟩=some (.string ⟨#[]⟩):=HZv.out.cell 13
 have f13:=HZv.out.free 13
 have y14:v1.cell? ⟨(w.heap.size+1+1+1),14,none⟩=some (.slice none 0 0):=HZv.out.cell 14
 have f14:=HZv.out.free 14
 have g10:=HBv.out.free 10
 have g11:=HBv.out.free 11
 have g12:=HBv.out.free 12
 have g13:=HBv.out.free 13
 have l0:w.heap.size<v1.heap.size:=HBv.out.lt
 have l3:w.heap.size+1+1+1<v1.heap.size:=HZv.out.lt
 have n3:¬w.heap.size=w.heap.size+1+1+1:=by omega
 clear HB1 HF2 hv1'
 go_wp2
 obtain⟨X2,hX2⟩:∃X,X=((((v1).setCell ⟨w.heap.size,10,none⟩ (.int .i64 U.op)).setCell ⟨w.heap.size,11,none⟩ (.string U.ty)).setCell ⟨w.heap.size,12,none⟩ (.string U.u.t)).setCell ⟨w.heap.size,13,none⟩ (.string U.u.i):=⟨_,rfl⟩
 rw[←hX2]
 have hk2:Keep (fun x=>x=w.heap.size) v1 X2:=by rw[hX2];exact(Keep.trans (Keep.trans (Keep.trans (keep_set _ w.heap.size 10 _) (keep_set _ w.heap.size 11 _) (fun _ e=>.inl e)) (keep_set _ w.heap.size 12 _) (fun _ e=>.inl e)) (keep_set _ w.heap.size 13 _) (fun _ e=>.inl e))
 have HZ:Hid (Blk X2 (w.heap.size+1+1+1) #[.string ⟨#[]⟩,.bool false,.int .i64 0,.string ⟨#[]⟩,.string ⟨#[]⟩,.string ⟨#[]⟩,.int .i64 0,.string ⟨#[]⟩,.string ⟨#[]⟩,.string ⟨#[]⟩,.int .i64 0,.string ⟨#[]⟩,.string ⟨#[]⟩,.string ⟨#[]⟩,.slice none 0 0] 28):=HZv.out.keep hk2 (by omega)
 have hbX2:Below w.heap.size w X2:=hbv1.trans (hk2.below hbv1.size (fun a e=>by have h2:a=w.heap.size:=e;omega))
 clear hX2 hk2 HZv HBv
 obtain⟨Y,hY⟩:∃Y,Y=(((((((((((((((X2).setCell ⟨(w.heap.size+1+1+1),0,none⟩ (.string p.nm)).setCell ⟨(w.heap.size+1+1+1),1,none⟩ (.bool p.fb)).setCell ⟨(w.heap.size+1+1+1),2,none⟩ (.int .i64 S.op)).setCell ⟨(w.heap.size+1+1+1),3,none⟩ (.string S.ty)).setCell ⟨(w.heap.size+1+1+1),4,none⟩ (.string S.u.t)).setCell ⟨(w.heap.size+1+1+1),5,none⟩ (.string S.u.i)).setCell ⟨(w.heap.size+1+1+1),6,none⟩ (.int .i64 p.act.op)).setCell ⟨(w.heap.size+1+1+1),7,none⟩ (.string p.act.ty)).setCell ⟨(w.heap.size+1+1+1),8,none⟩ (.string p.act.u.t)).setCell ⟨(w.heap.size+1+1+1),9,none⟩ (.string p.act.u.i)).setCell ⟨(w.heap.size+1+1+1),10,none⟩ (.int .i64 U.op)).setCell ⟨(w.heap.size+1+1+1),11,none⟩ (.string U.ty)).setCell ⟨(w.heap.size+1+1+1),12,none⟩ (.string U.u.t)).setCell ⟨(w.heap.size+1+1+1),13,none⟩ (.string U.u.i)).setCell ⟨(w.heap.size+1+1+1),14,none⟩ (.slice pc p.cs.length cc):=⟨_,rfl⟩
 rw[←hY]
 obtain⟨hbY,hkY⟩:Blk Y (w.heap.size+1+1+1) #[.string p.nm,.bool p.fb,.int .i64 S.op,.string S.ty,.string S.u.t,.string S.u.i,.int .i64 p.act.op,.string p.act.ty,.string p.act.u.t,.string p.act.u.i,.int .i64 U.op,.string U.ty,.string U.u.t,.string U.u.i,.slice pc p.cs.length cc] 28∧Keep (fun x=>x=(w.heap.size+1+1+1)) X2 Y:=by rw[hY];exact⟨lk_cells15 HZ.out (.string p.nm) (.bool p.fb) (.int .i64 S.op) (.string S.ty) (.string S.u.t) (.string S.u.i) (.int .i64 p.act.op) (.string p.act.ty) (.string p.act.u.t) (.string p.act.u.i) (.int .i64 U.op) (.string U.ty) (.string U.u.t) (.string U.u.i) (.slice pc p.cs.length cc),lk_keep15 _ _ _ _ _ _ _ _ _ _ _ _ _ _ _ _ _⟩
 have HBY:Hid (Below w.heap.size w Y):=(hbX2).trans (hkY.below (hbX2).size (fun a e=>by have h2:a=(w.heap.size+1+1+1):=e;omega))
 clear hY hkY
 have z0:=hbY.cell 0
 have z1:=hbY.cell 1
 have z2:=hbY.cell 2
 have z3:=hbY.cell 3
 have z4:=hbY.cell 4
 have z5:=hbY.cell 5
 have z6:=hbY.cell 6
 have z7:=hbY.cell 7
 have z8:=hbY.cell 8
 have z9:=hbY.cell 9
 have z10:=hbY.cell 10
 have z11:=hbY.cell 11
 have z12:=hbY.cell 12
 have z13:=hbY.cell 13
 have z14:=hbY.cell 14
 simp only[List.getElem?_toArray,List.getElem?_cons_zero,List.getElem?_cons_succ]at z0 z1 z2 z3 z4 z5 z6 z7 z8 z9 z10 z11 z12 z13 z14
 refine bodyPost_ret (v:=.tuple #[.agg #[.string p.nm,.bool p.fb,.int .i64 S.op,.string S.ty,.string S.u.t,.string S.u.i,.int .i64 p.act.op,.string p.act.ty,.string p.act.u.t,.string p.act.u.i,.int .i64 U.op,.string U.ty,.string U.u.t,.string U.u.i,.slice pc p.cs.length cc],.int .i64 0]) (by simp[results,Tryz.results9,go_sem,z0,z1,z2,z3,z4,z5,z6,z7,z8,z9,z10,z11,z12,z13,z14]) rfl ⟨?_,HBY.out⟩
 exact HR.out
theorem linked_ok01 (h0:pof p=0)(h1:hsl p.who=false)(h2:hsl p.what=true)(h4:uf what=0):
 Calls Tryz.prog 9 #[poV p pc cc,uiV who,uiV what] w fun e w'=>LdRet p pc cc who what e∧Below w.heap.size w w':=by
 obtain⟨V,hV⟩:∃V,V=(((w.alloc (.cells (poC p pc cc) 28)).alloc (.cells #[.string who.t,.string who.i] 23)).alloc (.cells #[.string what.t,.string what.i] 23)).alloc (.cells #[.string ⟨#[]⟩,.bool false,.int .i64 0,.string ⟨#[]⟩,.string ⟨#[]⟩,.string ⟨#[]⟩,.int .i64 0,.string ⟨#[]⟩,.string ⟨#[]⟩,.string ⟨#[]⟩,.int .i64 0,.string ⟨#[]⟩,.string ⟨#[]⟩,.string ⟨#[]⟩,.slice none 0 0] 28):=⟨_,rfl⟩
 have hbV:Below w.heap.size w V:=by rw[hV];exact kqx
 have HA:Hid (∀W,Below V.heap.size V W→Blk W w.heap.size (poC p pc cc) 28∧Blk W (w.heap.size+1) #[.string who.t,.string who.i] 23∧Blk W (w.heap.size+1+1) #[.string what.t,.string what.i] 23∧Blk W (w.heap.size+1+1+1) #[.string ⟨#[]⟩,.bool false,.int .i64 0,.string ⟨#[]⟩,.string ⟨#[]⟩,.string ⟨#[]⟩,.int .i64 0,.string ⟨#[]⟩,.string ⟨#[]⟩,.string ⟨#[]⟩,.int .i64 0,.string ⟨#[]⟩,.string ⟨#[]⟩,.string ⟨#[]⟩,.slice none 0 0] 28):=fun W hW=>by
  have h1:Blk V w.heap.size (poC p pc cc) 28:=by rw[hV];exact(((Blk.new w _ _ rfl).up kqx).up kqx).up kqx
  have h2:Blk V (w.heap.size+1) #[.string who.t,.string who.i] 23:=by rw[hV];refine((Blk.new (w.alloc _) _ _ ?_).up kqx).up kqx;simp
  have h3:Blk V (w.heap.size+1+1) #[.string what.t,.string what.i] 23:=by rw[hV];refine(Blk.new ((w.alloc _).alloc _) _ _ ?_).up kqx;simp
  have h4:Blk V (w.heap.size+1+1+1) #[.string ⟨#[]⟩,.bool false,.int .i64 0,.string ⟨#[]⟩,.string ⟨#[]⟩,.string ⟨#[]⟩,.int .i64 0,.string ⟨#[]⟩,.string ⟨#[]⟩,.string ⟨#[]⟩,.int .i64 0,.string ⟨#[]⟩,.string ⟨#[]⟩,.string ⟨#[]⟩,.slice none 0 0] 28:=by rw[hV];refine Blk.new (((w.alloc _).alloc _).alloc _) _ _ ?_;simp
  exact⟨h1.up hW,h2.up hW,h3.up hW,h4.up hW⟩
 have HC:=policyFault_any p pc cc V (h.up hbV)
 have HS1:=slotted_any p.who
 have HS2:=slotted_any p.what
 have HU1:=fun W=>ruf_any who W hu
 have HU2:=fun W=>ruf_any what W hv
 have HF1:=rfilled_any p.who who
 have HF2:=rfilled_any p.what what
 have hz:fif p.who who=0:=by unfold fif;rw[h1];rfl
 have hy:fif p.what what=0:=by unfold fif;rw[h2,if_pos rfl];exact h4
 have HR:Hid (LdRet p pc cc who what (.returned (.tuple #[poV ⟨p.nm,p.fb,fil p.who who,p.act,fil p.what what,p.cs⟩ pc cc,.int .i64 0]))):=by
  have hl:lkf p who what=0:=by unfold lkf;rw[if_pos h0,if_pos hz];exact hy
  show LdRet _ _ _ _ _ _
  unfold LdRet
  rw[if_pos hl]
  rfl
 rw[h0]at HC
 rw[h1]at HS1
 rw[h2]at HS2
 rw[h4]at HU2
 generalize fil p.who who=S at *
 generalize fil p.what what=U at *
 clear h0 h1 h2 hz hy HU1 h4 h hu hv
 unfold poC at hV
 unfold poV uiV at *
 try unfold scV at *
 go_enter Tryz.func9,Tryz.ntmps9
 go_wp2_with fail
 rw[←hV]
 clear hV
 refine HC.mono ?_
 rintro _ w1 ⟨rfl,hb1⟩
 clear HC
 obtain⟨hB0,hB1,hB2,hB3⟩:=HA.out w1 hb1
 obtain⟨x0,x1,x2,x3,x4,x5,x6,x7,x8,x9,x10,x11,x12,x13,x14⟩:=po_cells hB0
 have l0:w.heap.size<w1.heap.size:=hB0.lt
 have l2:w.heap.size+1+1<w1.heap.size:=hB2.lt
 clear hB0 hB1 hB2 hB3
 go_wp2_with fail
 refine(HS1 _).mono ?_
 rintro _ w2 ⟨rfl,hb2'⟩
 have hb2:Below V.heap.size V w2:=kqt hb1 hb2'
 clear HS1 hb2' l0 l2 x0 x1 x2 x3 x4 x5 x6 x7 x8 x9 x10 x11 x12 x13 x14
 obtain⟨hB0,hB1,hB2,hB3⟩:=HA.out w2 hb2
 obtain⟨x0,x1,x2,x3,x4,x5,x6,x7,x8,x9,x10,x11,x12,x13,x14⟩:=po_cells hB0
 have l0:w.heap.size<w2.heap.size:=hB0.lt
 have l2:w.heap.size+1+1<w2.heap.size:=hB2.lt
 clear hB0 hB1 hB2 hB3
 go_wp2_with fail
 refine(HS2 _).mono ?_
 rintro _ w3 ⟨rfl,hb3'⟩
 have hb3:Below V.heap.size V w3:=kqt hb2 hb3'
 clear HS2 hb3' l0 l2 x0 x1 x2 x3 x4 x5 x6 x7 x8 x9 x10 x11 x12 x13 x14
 obtain⟨hB0,hB1,hB2,hB3⟩:=HA.out w3 hb3
 have t0:=hB2.cell 0
 have t1:=hB2.cell 1
 simp only[List.getElem?_toArray,List.getElem?_cons_zero,List.getElem?_cons_succ]at t0 t1
 have l0:w.heap.size<w3.heap.size:=hB0.lt
 have l2:w.heap.size+1+1<w3.heap.size:=hB2.lt
 clear hB0 hB1 hB2 hB3
 go_wp2_with fail
 refine(HU2 _).mono ?_
 rintro _ w4 ⟨rfl,hb4'⟩
 have hb4:Below V.heap.size V w4:=kqt hb3 hb4'
 clear HU2 hb4' l0 l2 t0 t1
 obtain⟨hB0,hB1,hB2,hB3⟩:=HA.out w4 hb4
 obtain⟨x0,x1,x2,x3,x4,x5,x6,x7,x8,x9,x10,x11,x12,x13,x14⟩:=po_cells hB0
 have u0:=hB1.cell 0
 have u1:=hB1.cell 1
 simp only[List.getElem?_toArray,List.getElem?_cons_zero,List.getElem?_cons_succ]at u0 u1
 have l0:w.heap.size<w4.heap.size:=hB0.lt
 have l2:w.heap.size+1+1<w4.heap.size:=hB2.lt
 clear hB0 hB1 hB2 hB3
 go_wp2_with fail
 refine(HF1 _).mono ?_
 rintro _ w5 ⟨rfl,hb5'⟩
 have hb5:Below V.heap.size V w5:=kqt hb4 hb5'
 clear HF1 hb5' l0 l2 x0 x1 x2 x3 x4 x5 x6 x7 x8 x9 x10 x11 x12 x13 x14 u0 u1
 obtain⟨hB0,hB1,hB2,hB3⟩:=HA.out w5 hb5
 obtain⟨x0,x1,x2,x3,x4,x5,x6,x7,x8,x9,x10,x11,x12,x13,x14⟩:=po_cells hB0
 have f2:=hB0.free 2
 have f3:=hB0.free 3
 have f4:=hB0.free 4
 have f5:=hB0.free 5
 have t0:=hB2.cell 0
 have t1:=hB2.cell 1
 simp only[List.getElem?_toArray,List.getElem?_cons_zero,List.getElem?_cons_succ]at t0 t1
 have l0:w.heap.size<w5.heap.size:=hB0.lt
 have l2:w.heap.size+1+1<w5.heap.size:=hB2.lt
 have n2:¬w.heap.size=w.heap.size+1+1:=by omega
 have HB:Hid (Blk w5 w.heap.size #[.string p.nm,.bool p.fb,.int .i64 p.who.op,.string p.who.ty,.string p.who.u.t,.string p.who.u.i,.int .i64 p.act.op,.string p.act.ty,.string p.act.u.t,.string p.act.u.i,.int .i64 p.what.op,.string p.what.ty,.string p.what.u.t,.string p.what.u.i,.slice pc p.cs.length cc] 28∧Blk w5 (w.heap.size+1+1+1) #[.string ⟨#[]⟩,.bool false,.int .i64 0,.string ⟨#[]⟩,.string ⟨#[]⟩,.string ⟨#[]⟩,.int .i64 0,.string ⟨#[]⟩,.string ⟨#[]⟩,.string ⟨#[]⟩,.int .i64 0,.string ⟨#[]⟩,.string ⟨#[]⟩,.string ⟨#[]⟩,.slice none 0 0] 28):=⟨hB0,hB3⟩
 clear hB0 hB1 hB2 hB3 HA
 go_wp2_with fail
 obtain⟨X1,hX1⟩:∃X,X=((((w5).setCell ⟨w.heap.size,2,none⟩ (.int .i64 S.op)).setCell ⟨w.heap.size,3,none⟩ (.string S.ty)).setCell ⟨w.heap.size,4,none⟩ (.string S.u.t)).setCell ⟨w.heap.size,5,none⟩ (.string S.u.i):=⟨_,rfl⟩
 rw[←hX1]
 have hk1:Keep (fun x=>x=w.heap.size) w5 X1:=by rw[hX1];exact(Keep.trans (Keep.trans (Keep.trans (keep_set _ w.heap.size 2 _) (keep_set _ w.heap.size 3 _) (fun _ e=>.inl e)) (keep_set _ w.heap.size 4 _) (fun _ e=>.inl e)) (keep_set _ w.heap.size 5 _) (fun _ e=>.inl e))
 have HB1:Hid (Blk X1 w.heap.size #[.string p.nm,.bool p.fb,.int .i64 S.op,.string S.ty,.string S.u.t,.string S.u.i,.int .i64 p.act.op,.string p.act.ty,.string p.act.u.t,.string p.act.u.i,.int .i64 p.what.op,.string p.what.ty,.string p.what.u.t,.string p.what.u.i,.slice pc p.cs.length cc] 28∧Blk X1 (w.heap.size+1+1+1) #[.string ⟨#[]⟩,.bool false,.int .i64 0,.string ⟨#[]⟩,.string ⟨#[]⟩,.string ⟨#[]⟩,.int .i64 0,.string ⟨#[]⟩,.string ⟨#[]⟩,.string ⟨#[]⟩,.int .i64 0,.string ⟨#[]⟩,.string ⟨#[]⟩,.string ⟨#[]⟩,.slice none 0 0] 28):=⟨by rw[hX1];exact((((HB.out.1.set rfl).1.set rfl).1.set rfl).1.set rfl).1,HB.out.2.keep hk1 (by omega)⟩
 have hbX1:Below w.heap.size w X1:=(kqt hbV hb5).trans (hk1.below (kqt hbV hb5).size (fun a e=>by have h2:a=w.heap.size:=e;omega))
 clear hX1 hk1 HB t0 t1 l0 l2 n2 f2 f3 f4 f5 x0 x1 x2 x3 x4 x5 x6 x7 x8 x9 x10 x11 x12 x13 x14
 refine(HF2 _).mono ?_
 rintro _ v1 ⟨rfl,hv1'⟩
 have hbv1:Below w.heap.size w v1:=kqt hbX1 hv1'
 have HBv:Hid (Blk v1 w.heap.size #[.string p.nm,.bool p.fb,.int .i64 S.op,.string S.ty,.string S.u.t,.string S.u.i,.int .i64 p.act.op,.string p.act.ty,.string p.act.u.t,.string p.act.u.i,.int .i64 p.what.op,.string p.what.ty,.string p.what.u.t,.string p.what.u.i,.slice pc p.cs.length cc] 28):=HB1.out.1.up hv1'
 have HZv:Hid (Blk v1 (w.heap.size+1+1+1) #[.string ⟨#[]⟩,.bool false,.int .i64 0,.string ⟨#[]⟩,.string ⟨#[]⟩,.string ⟨#[]⟩,.int .i64 0,.string ⟨#[]⟩,.string ⟨#[]⟩,.string ⟨#[]⟩,.int .i64 0,.string ⟨#[]⟩,.string ⟨#[]⟩,.string ⟨#[]⟩,.slice none 0 0] 28):=HB1.out.2.up hv1'
 have x0:v1.cell? ⟨w.heap.size,0,none⟩=some (.string p.nm):=HBv.out.cell 0
 have x1:v1.cell? ⟨w.heap.size,1,none⟩=some (.bool p.fb):=HBv.out.cell 1
 have x2:v1.cell? ⟨w.heap.size,2,none⟩=some (.int .i64 S.op):=HBv.out.cell 2
 have x3:v1.cell? ⟨w.heap.size,3,none⟩=some (.string S.ty):=HBv.out.cell 3
 have x4:v1.cell? ⟨w.heap.size,4,none⟩=some (.string S.u.t):=HBv.out.cell 4
 have x5:v1.cell? ⟨w.heap.size,5,none⟩=some (.string S.u.i):=HBv.out.cell 5
 have x6:v1.cell? ⟨w.heap.size,6,none⟩=some (.int .i64 p.act.op):=HBv.out.cell 6
 have x7:v1.cell? ⟨w.heap.size,7,none⟩=some (.string p.act.ty):=HBv.out.cell 7
 have x8:v1.cell? ⟨w.heap.size,8,none⟩=some (.string p.act.u.t):=HBv.out.cell 8
 have x9:v1.cell? ⟨w.heap.size,9,none⟩=some (.string p.act.u.i):=HBv.out.cell 9
 have x10:v1.cell? ⟨w.heap.size,10,none⟩=some (.int .i64 p.what.op):=HBv.out.cell 10
 have x11:v1.cell? ⟨w.heap.size,11,none⟩=some (.string p.what.ty):=HBv.out.cell 11
 have x12:v1.cell? ⟨w.heap.size,12,none⟩=some (.string p.what.u.t):=HBv.out.cell 12
 have x13:v1.cell? ⟨w.heap.size,13,none⟩=some (.string p.what.u.i):=HBv.out.cell 13
 have x14:v1.cell? ⟨w.heap.size,14,none⟩=some (.slice pc p.cs.length cc):=HBv.out.cell 14
 have y0:v1.cell? ⟨(w.heap.size+1+1+1),0,none⟩=some (.string ⟨#[]⟩):=HZv.out.cell 0
 have f0:=HZv.out.free 0
 have y1:v1.cell? ⟨(w.heap.size+1+1+1),1,none⟩=some (.bool false):=HZv.out.cell 1
 have f1:=HZv.out.free 1
 have y2:v1.cell? ⟨(w.heap.size+1+1+1),2,none⟩=some (.int .i64 0):=HZv.out.cell 2
 have f2:=HZv.out.free 2
 have y3:v1.cell? ⟨(w.heap.size+1+1+1),3,none⟩=some (.string ⟨#[]⟩):=HZv.out.cell 3
 have f3:=HZv.out.free 3
 have y4:v1.cell? ⟨(w.heap.size+1+1+1),4,none⟩=some (.string ⟨#[]⟩):=HZv.out.cell 4
 have f4:=HZv.out.free 4
 have y5:v1.cell? ⟨(w.heap.size+1+1+1),5,none⟩=some (.string ⟨#[]⟩):=HZv.out.cell 5
 have f5:=HZv.out.free 5
 have y6:v1.cell? ⟨(w.heap.size+1+1+1),6,none⟩=some (.int .i64 0):=HZv.out.cell 6
 have f6:=HZv.out.free 6
 have y7:v1.cell? ⟨(w.heap.size+1+1+1),7,none⟩=some (.string ⟨#[]⟩):=HZv.out.cell 7
 have f7:=HZv.out.free 7
 have y8:v1.cell? ⟨(w.heap.size+1+1+1),8,none⟩=some (.string ⟨#[]⟩):=HZv.out.cell 8
 have f8:=HZv.out.free 8
 have y9:v1.cell? ⟨(w.heap.size+1+1+1),9,none⟩=some (.string ⟨#[]⟩):=HZv.out.cell 9
 have f9:=HZv.out.free 9
 have y10:v1.cell? ⟨(w.heap.size+1+1+1),10,none⟩=some (.int .i64 0):=HZv.out.cell 10
 have f10:=HZv.out.free 10
 have y11:v1.cell? ⟨(w.heap.size+1+1+1),11,none⟩=some (.string ⟨#[]⟩):=HZv.out.cell 11
 have f11:=HZv.out.free 11
 have y12:v1.cell? ⟨(w.heap.size+1+1+1),12,none⟩=some (.string ⟨#[]⟩):=HZv.out.cell 12
 have f12:=HZv.out.free 12
 have y13:v1.cell? ⟨(w.heap.size+1+1+1),13,none⟩=some (.string ⟨#[]⟩):=HZv.out.cell 13
 have f13:=HZv.out.free 13
 have y14:v1.cell? ⟨(w.heap.size+1+1+1),14,none⟩=some (.slice none 0 0):=HZv.out.cell 14
 have f14:=HZv.out.free 14
 have g10:=HBv.out.free 10
 have g11:=HBv.out.free 11
 have g12:=HBv.out.free 12
 have g13:=HBv.out.free 13
 have l0:w.heap.size<v1.heap.size:=HBv.out.lt
 have l3:w.heap.size+1+1+1<v1.heap.size:=HZv.out.lt
 have n3:¬w.heap.size=w.heap.size+1+1+1:=by omega
 clear HB1 HF2 hv1'
 go_wp2
 obtain⟨X2,hX2⟩:∃X,X=((((v1).setCell ⟨w.heap.size,10,none⟩ (.int .i64 U.op)).setCell ⟨w.heap.size,11,none⟩ (.string U.ty)).setCell ⟨w.heap.size,12,none⟩ (.string U.u.t)).setCell ⟨w.heap.size,13,none⟩ (.string U.u.i):=⟨_,rfl⟩
 rw[←hX2]
 have hk2:Keep (fun x=>x=w.heap.size) v1 X2:=by rw[hX2];exact(Keep.trans (Keep.trans (Keep.trans (keep_set _ w.heap.size 10 _) (keep_set _ w.heap.size 11 _) (fun _ e=>.inl e)) (keep_set _ w.heap.size 12 _) (fun _ e=>.inl e)) (keep_set _ w.heap.size 13 _) (fun _ e=>.inl e))
 have HZ:Hid (Blk X2 (w.heap.size+1+1+1) #[.string ⟨#[]⟩,.bool false,.int .i64 0,.string ⟨#[]⟩,.string ⟨#[]⟩,.string ⟨#[]⟩,.int .i64 0,.string ⟨#[]⟩,.string ⟨#[]⟩,.string ⟨#[]⟩,.int .i64 0,.string ⟨#[]⟩,.string ⟨#[]⟩,.string ⟨#[]⟩,.slice none 0 0] 28):=HZv.out.keep hk2 (by omega)
 have hbX2:Below w.heap.size w X2:=hbv1.trans (hk2.below hbv1.size (fun a e=>by have h2:a=w.heap.size:=e;omega))
 clear hX2 hk2 HZv HBv
 obtain⟨Y,hY⟩:∃Y,Y=(((((((((((((((X2).setCell ⟨(w.heap.size+1+1+1),0,none⟩ (.string p.nm)).setCell ⟨(w.heap.size+1+1+1),1,none⟩ (.bool p.fb)).setCell ⟨(w.heap.size+1+1+1),2,none⟩ (.int .i64 S.op)).setCell ⟨(w.heap.size+1+1+1),3,none⟩ (.string S.ty)).setCell ⟨(w.heap.size+1+1+1),4,none⟩ (.string S.u.t)).setCell ⟨(w.heap.size+1+1+1),5,none⟩ (.string S.u.i)).setCell ⟨(w.heap.size+1+1+1),6,none⟩ (.int .i64 p.act.op)).setCell ⟨(w.heap.size+1+1+1),7,none⟩ (.string p.act.ty)).setCell ⟨(w.heap.size+1+1+1),8,none⟩ (.string p.act.u.t)).setCell ⟨(w.heap.size+1+1+1),9,none⟩ (.string p.act.u.i)).setCell ⟨(w.heap.size+1+1+1),10,none⟩ (.int .i64 U.op)).setCell ⟨(w.heap.size+1+1+1),11,none⟩ (.string U.ty)).setCell ⟨(w.heap.size+1+1+1),12,none⟩ (.string U.u.t)).setCell ⟨(w.heap.size+1+1+1),13,none⟩ (.string U.u.i)).setCell ⟨(w.heap.size+1+1+1),14,none⟩ (.slice pc p.cs.length cc):=⟨_,rfl⟩
 rw[←hY]
 obtain⟨hbY,hkY⟩:Blk Y (w.heap.size+1+1+1) #[.string p.nm,.bool p.fb,.int .i64 S.op,.string S.ty,.string S.u.t,.string S.u.i,.int .i64 p.act.op,.string p.act.ty,.string p.act.u.t,.string p.act.u.i,.int .i64 U.op,.string U.ty,.string U.u.t,.string U.u.i,.slice pc p.cs.length cc] 28∧Keep (fun x=>x=(w.heap.size+1+1+1)) X2 Y:=by rw[hY];exact⟨lk_cells15 HZ.out (.string p.nm) (.bool p.fb) (.int .i64 S.op) (.string S.ty) (.string S.u.t) (.string S.u.i) (.int .i64 p.act.op) (.string p.act.ty) (.string p.act.u.t) (.string p.act.u.i) (.int .i64 U.op) (.string U.ty) (.string U.u.t) (.string U.u.i) (.slice pc p.cs.length cc),lk_keep15 _ _ _ _ _ _ _ _ _ _ _ _ _ _ _ _ _⟩
 have HBY:Hid (Below w.heap.size w Y):=(hbX2).trans (hkY.below (hbX2).size (fun a e=>by have h2:a=(w.heap.size+1+1+1):=e;omega))
 clear hY hkY
 have z0:=hbY.cell 0
 have z1:=hbY.cell 1
 have z2:=hbY.cell 2
 have z3:=hbY.cell 3
 have z4:=hbY.cell 4
 have z5:=hbY.cell 5
 have z6:=hbY.cell 6
 have z7:=hbY.cell 7
 have z8:=hbY.cell 8
 have z9:=hbY.cell 9
 have z10:=hbY.cell 10
 have z11:=hbY.cell 11
 have z12:=hbY.cell 12
 have z13:=hbY.cell 13
 have z14:=hbY.cell 14
 simp only[List.getElem?_toArray,List.getElem?_cons_zero,List.getElem?_cons_succ]at z0 z1 z2 z3 z4 z5 z6 z7 z8 z9 z10 z11 z12 z13 z14
 refine bodyPost_ret (v:=.tuple #[.agg #[.string p.nm,.bool p.fb,.int .i64 S.op,.string S.ty,.string S.u.t,.string S.u.i,.int .i64 p.act.op,.string p.act.ty,.string p.act.u.t,.string p.act.u.i,.int .i64 U.op,.string U.ty,.string U.u.t,.string U.u.i,.slice pc p.cs.length cc],.int .i64 0]) (by simp[results,Tryz.results9,go_sem,z0,z1,z2,z3,z4,z5,z6,z7,z8,z9,z10,z11,z12,z13,z14]) rfl ⟨?_,HBY.out⟩
 exact HR.out
theorem linked_ok10 (h0:pof p=0)(h1:hsl p.who=true)(h3:uf who=0)(h2:hsl p.what=false):
 Calls Tryz.prog 9 #[poV p pc cc,uiV who,uiV what] w fun e w'=>LdRet p pc cc who what e∧Below w.heap.size w w':=by
 obtain⟨V,hV⟩:∃V,V=(((w.alloc (.cells (poC p pc cc) 28)).alloc (.cells #[.string who.t,.string who.i] 23)).alloc (.cells #[.string what.t,.string what.i] 23)).alloc (.cells #[.string ⟨#[]⟩,.bool false,.int .i64 0,.string ⟨#[]⟩,.string ⟨#[]⟩,.string ⟨#[]⟩,.int .i64 0,.string ⟨#[]⟩,.string ⟨#[]⟩,.string ⟨#[]⟩,.int .i64 0,.string ⟨#[]⟩,.string ⟨#[]⟩,.string ⟨#[]⟩,.slice none 0 0] 28):=⟨_,rfl⟩
 have hbV:Below w.heap.size w V:=by rw[hV];exact kqx
 have HA:Hid (∀W,Below V.heap.size V W→Blk W w.heap.size (poC p pc cc) 28∧Blk W (w.heap.size+1) #[.string who.t,.string who.i] 23∧Blk W (w.heap.size+1+1) #[.string what.t,.string what.i] 23∧Blk W (w.heap.size+1+1+1) #[.string ⟨#[]⟩,.bool false,.int .i64 0,.string ⟨#[]⟩,.string ⟨#[]⟩,.string ⟨#[]⟩,.int .i64 0,.string ⟨#[]⟩,.string ⟨#[]⟩,.string ⟨#[]⟩,.int .i64 0,.string ⟨#[]⟩,.string ⟨#[]⟩,.string ⟨#[]⟩,.slice none 0 0] 28):=fun W hW=>by
  have h1:Blk V w.heap.size (poC p pc cc) 28:=by rw[hV];exact(((Blk.new w _ _ rfl).up kqx).up kqx).up kqx
  have h2:Blk V (w.heap.size+1) #[.string who.t,.string who.i] 23:=by rw[hV];refine((Blk.new (w.alloc _) _ _ ?_).up kqx).up kqx;simp
  have h3:Blk V (w.heap.size+1+1) #[.string what.t,.string what.i] 23:=by rw[hV];refine(Blk.new ((w.alloc _).alloc _) _ _ ?_).up kqx;simp
  have h4:Blk V (w.heap.size+1+1+1) #[.string ⟨#[]⟩,.bool false,.int .i64 0,.string ⟨#[]⟩,.string ⟨#[]⟩,.string ⟨#[]⟩,.int .i64 0,.string ⟨#[]⟩,.string ⟨#[]⟩,.string ⟨#[]⟩,.int .i64 0,.string ⟨#[]⟩,.string ⟨#[]⟩,.string ⟨#[]⟩,.slice none 0 0] 28:=by rw[hV];refine Blk.new (((w.alloc _).alloc _).alloc _) _ _ ?_;simp
  exact⟨h1.up hW,h2.up hW,h3.up hW,h4.up hW⟩
 have HC:=policyFault_any p pc cc V (h.up hbV)
 have HS1:=slotted_any p.who
 have HS2:=slotted_any p.what
 have HU1:=fun W=>ruf_any who W hu
 have HU2:=fun W=>ruf_any what W hv
 have HF1:=rfilled_any p.who who
 have HF2:=rfilled_any p.what what
 have hz:fif p.who who=0:=by unfold fif;rw[h1,if_pos rfl];exact h3
 have hy:fif p.what what=0:=by unfold fif;rw[h2];rfl
 have HR:Hid (LdRet p pc cc who what (.returned (.tuple #[poV ⟨p.nm,p.fb,fil p.who who,p.act,fil p.what what,p.cs⟩ pc cc,.int .i64 0]))):=by
  have hl:lkf p who what=0:=by unfold lkf;rw[if_pos h0,if_pos hz];exact hy
  show LdRet _ _ _ _ _ _
  unfold LdRet
  rw[if_pos hl]
  rfl
 rw[h0]at HC
 rw[h1]at HS1
 rw[h2]at HS2
 rw[h3]at HU1
 generalize fil p.who who=S at *
 generalize fil p.what what=U at *
 clear h0 h1 h2 hz hy h3 HU2 h hu hv
 unfold poC at hV
 unfold poV uiV at *
 try unfold scV at *
 go_enter Tryz.func9,Tryz.ntmps9
 go_wp2_with fail
 rw[←hV]
 clear hV
 refine HC.mono ?_
 rintro _ w1 ⟨rfl,hb1⟩
 clear HC
 obtain⟨hB0,hB1,hB2,hB3⟩:=HA.out w1 hb1
 obtain⟨x0,x1,x2,x3,x4,x5,x6,x7,x8,x9,x10,x11,x12,x13,x14⟩:=po_cells hB0
 have l0:w.heap.size<w1.heap.size:=hB0.lt
 have l2:w.heap.size+1+1<w1.heap.size:=hB2.lt
 clear hB0 hB1 hB2 hB3
 go_wp2_with fail
 refine(HS1 _).mono ?_
 rintro _ w2 ⟨rfl,hb2'⟩
 have hb2:Below V.heap.size V w2:=kqt hb1 hb2'
 clear HS1 hb2' l0 l2 x0 x1 x2 x3 x4 x5 x6 x7 x8 x9 x10 x11 x12 x13 x14
 obtain⟨hB0,hB1,hB2,hB3⟩:=HA.out w2 hb2
 have u0:=hB1.cell 0
 have u1:=hB1.cell 1
 simp only[List.getElem?_toArray,List.getElem?_cons_zero,List.getElem?_cons_succ]at u0 u1
 have l0:w.heap.size<w2.heap.size:=hB0.lt
 have l2:w.heap.size+1+1<w2.heap.size:=hB2.lt
 clear hB0 hB1 hB2 hB3
 go_wp2_with fail
 refine(HU1 _).mono ?_
 rintro _ w3 ⟨rfl,hb3'⟩
 have hb3:Below V.heap.size V w3:=kqt hb2 hb3'
 clear HU1 hb3' l0 l2 u0 u1
 obtain⟨hB0,hB1,hB2,hB3⟩:=HA.out w3 hb3
 obtain⟨x0,x1,x2,x3,x4,x5,x6,x7,x8,x9,x10,x11,x12,x13,x14⟩:=po_cells hB0
 have l0:w.heap.size<w3.heap.size:=hB0.lt
 have l2:w.heap.size+1+1<w3.heap.size:=hB2.lt
 clear hB0 hB1 hB2 hB3
 go_wp2_with fail
 refine(HS2 _).mono ?_
 rintro _ w4 ⟨rfl,hb4'⟩
 have hb4:Below V.heap.size V w4:=kqt hb3 hb4'
 clear HS2 hb4' l0 l2 x0 x1 x2 x3 x4 x5 x6 x7 x8 x9 x10 x11 x12 x13 x14
 obtain⟨hB0,hB1,hB2,hB3⟩:=HA.out w4 hb4
 obtain⟨x0,x1,x2,x3,x4,x5,x6,x7,x8,x9,x10,x11,x12,x13,x14⟩:=po_cells hB0
 have u0:=hB1.cell 0
 have u1:=hB1.cell 1
 simp only[List.getElem?_toArray,List.getElem?_cons_zero,List.getElem?_cons_succ]at u0 u1
 have l0:w.heap.size<w4.heap.size:=hB0.lt
 have l2:w.heap.size+1+1<w4.heap.size:=hB2.lt
 clear hB0 hB1 hB2 hB3
 go_wp2_with fail
 refine(HF1 _).mono ?_
 rintro _ w5 ⟨rfl,hb5'⟩
 have hb5:Below V.heap.size V w5:=kqt hb4 hb5'
 clear HF1 hb5' l0 l2 x0 x1 x2 x3 x4 x5 x6 x7 x8 x9 x10 x11 x12 x13 x14 u0 u1
 obtain⟨hB0,hB1,hB2,hB3⟩:=HA.out w5 hb5
 obtain⟨x0,x1,x2,x3,x4,x5,x6,x7,x8,x9,x10,x11,x12,x13,x14⟩:=po_cells hB0
 have f2:=hB0.free 2
 have f3:=hB0.free 3
 have f4:=hB0.free 4
 have f5:=hB0.free 5
 have t0:=hB2.cell 0
 have t1:=hB2.cell 1
 simp only[List.getElem?_toArray,List.getElem?_cons_zero,List.getElem?_cons_succ]at t0 t1
 have l0:w.heap.size<w5.heap.size:=hB0.lt
 have l2:w.heap.size+1+1<w5.heap.size:=hB2.lt
 have n2:¬w.heap.size=w.heap.size+1+1:=by omega
 have HB:Hid (Blk w5 w.heap.size #[.string p.nm,.bool p.fb,.int .i64 p.who.op,.string p.who.ty,.string p.who.u.t,.string p.who.u.i,.int .i64 p.act.op,.string p.act.ty,.string p.act.u.t,.string p.act.u.i,.int .i64 p.what.op,.string p.what.ty,.string p.what.u.t,.string p.what.u.i,.slice pc p.cs.length cc] 28∧Blk w5 (w.heap.size+1+1+1) #[.string ⟨#[]⟩,.bool false,.int .i64 0,.string ⟨#[]⟩,.string ⟨#[]⟩,.string ⟨#[]⟩,.int .i64 0,.string ⟨#[]⟩,.string ⟨#[]⟩,.string ⟨#[]⟩,.int .i64 0,.string ⟨#[]⟩,.string ⟨#[]⟩,.string ⟨#[]⟩,.slice none 0 0] 28):=⟨hB0,hB3⟩
 clear hB0 hB1 hB2 hB3 HA
 go_wp2_with fail
 obtain⟨X1,hX1⟩:∃X,X=((((w5).setCell ⟨w.heap.size,2,none⟩ (.int .i64 S.op)).setCell ⟨w.heap.size,3,none⟩ (.string S.ty)).setCell ⟨w.heap.size,4,none⟩ (.string S.u.t)).setCell ⟨w.heap.size,5,none⟩ (.string S.u.i):=⟨_,rfl⟩
 rw[←hX1]
 have hk1:Keep (fun x=>x=w.heap.size) w5 X1:=by rw[hX1];exact(Keep.trans (Keep.trans (Keep.trans (keep_set _ w.heap.size 2 _) (keep_set _ w.heap.size 3 _) (fun _ e=>.inl e)) (keep_set _ w.heap.size 4 _) (fun _ e=>.inl e)) (keep_set _ w.heap.size 5 _) (fun _ e=>.inl e))
 have HB1:Hid (Blk X1 w.heap.size #[.string p.nm,.bool p.fb,.int .i64 S.op,.string S.ty,.string S.u.t,.string S.u.i,.int .i64 p.act.op,.string p.act.ty,.string p.act.u.t,.string p.act.u.i,.int .i64 p.what.op,.string p.what.ty,.string p.what.u.t,.string p.what.u.i,.slice pc p.cs.length cc] 28∧Blk X1 (w.heap.size+1+1+1) #[.string ⟨#[]⟩,.bool false,.int .i64 0,.string ⟨#[]⟩,.string ⟨#[]⟩,.string ⟨#[]⟩,.int .i64 0,.string ⟨#[]⟩,.string ⟨#[]⟩,.string ⟨#[]⟩,.int .i64 0,.string ⟨#[]⟩,.string ⟨#[]⟩,.string ⟨#[]⟩,.slice none 0 0] 28):=⟨by rw[hX1];exact((((HB.out.1.set rfl).1.set rfl).1.set rfl).1.set rfl).1,HB.out.2.keep hk1 (by omega)⟩
 have hbX1:Below w.heap.size w X1:=(kqt hbV hb5).trans (hk1.below (kqt hbV hb5).size (fun a e=>by have h2:a=w.heap.size:=e;omega))
 clear hX1 hk1 HB t0 t1 l0 l2 n2 f2 f3 f4 f5 x0 x1 x2 x3 x4 x5 x6 x7 x8 x9 x10 x11 x12 x13 x14
 refine(HF2 _).mono ?_
 rintro _ v1 ⟨rfl,hv1'⟩
 have hbv1:Below w.heap.size w v1:=kqt hbX1 hv1'
 have HBv:Hid (Blk v1 w.heap.size #[.string p.nm,.bool p.fb,.int .i64 S.op,.string S.ty,.string S.u.t,.string S.u.i,.int .i64 p.act.op,.string p.act.ty,.string p.act.u.t,.string p.act.u.i,.int .i64 p.what.op,.string p.what.ty,.string p.what.u.t,.string p.what.u.i,.slice pc p.cs.length cc] 28):=HB1.out.1.up hv1'
 have HZv:Hid (Blk v1 (w.heap.size+1+1+1) #[.string ⟨#[]⟩,.bool false,.int .i64 0,.string ⟨#[]⟩,.string ⟨#[]⟩,.string ⟨#[]⟩,.int .i64 0,.string ⟨#[]⟩,.string ⟨#[]⟩,.string ⟨#[]⟩,.int .i64 0,.string ⟨#[]⟩,.string ⟨#[]⟩,.string ⟨#[]⟩,.slice none 0 0] 28):=HB1.out.2.up hv1'
 have x0:v1.cell? ⟨w.heap.size,0,none⟩=some (.string p.nm):=HBv.out.cell 0
 have x1:v1.cell? ⟨w.heap.size,1,none⟩=some (.bool p.fb):=HBv.out.cell 1
 have x2:v1.cell? ⟨w.heap.size,2,none⟩=some (.int .i64 S.op):=HBv.out.cell 2
 have x3:v1.cell? ⟨w.heap.size,3,none⟩=some (.string S.ty):=HBv.out.cell 3
 have x4:v1.cell? ⟨w.heap.size,4,none⟩=some (.string S.u.t):=HBv.out.cell 4
 have x5:v1.cell? ⟨w.heap.size,5,none⟩=some (.string S.u.i):=HBv.out.cell 5
 have x6:v1.cell? ⟨w.heap.size,6,none⟩=some (.int .i64 p.act.op):=HBv.out.cell 6
 have x7:v1.cell? ⟨w.heap.size,7,none⟩=some (.string p.act.ty):=HBv.out.cell 7
 have x8:v1.cell? ⟨w.heap.size,8,none⟩=some (.string p.act.u.t):=HBv.out.cell 8
 have x9:v1.cell? ⟨w.heap.size,9,none⟩=some (.string p.act.u.i):=HBv.out.cell 9
 have x10:v1.cell? ⟨w.heap.size,10,none⟩=some (.int .i64 p.what.op):=HBv.out.cell 10
 have x11:v1.cell? ⟨w.heap.size,11,none⟩=some (.string p.what.ty):=HBv.out.cell 11
 have x12:v1.cell? ⟨w.heap.size,12,none⟩=some (.string p.what.u.t):=HBv.out.cell 12
 have x13:v1.cell? ⟨w.heap.size,13,none⟩=some (.string p.what.u.i):=HBv.out.cell 13
 have x14:v1.cell? ⟨w.heap.size,14,none⟩=some (.slice pc p.cs.length cc):=HBv.out.cell 14
 have y0:v1.cell? ⟨(w.heap.size+1+1+1),0,none⟩=some (.string ⟨#[]⟩):=HZv.out.cell 0
 have f0:=HZv.out.free 0
 have y1:v1.cell? ⟨(w.heap.size+1+1+1),1,none⟩=some (.bool false):=HZv.out.cell 1
 have f1:=HZv.out.free 1
 have y2:v1.cell? ⟨(w.heap.size+1+1+1),2,none⟩=some (.int .i64 0):=HZv.out.cell 2
 have f2:=HZv.out.free 2
 have y3:v1.cell? ⟨(w.heap.size+1+1+1),3,none⟩=some (.string ⟨#[]⟩):=HZv.out.cell 3
 have f3:=HZv.out.free 3
 have y4:v1.cell? ⟨(w.heap.size+1+1+1),4,none⟩=some (.string ⟨#[]⟩):=HZv.out.cell 4
 have f4:=HZv.out.free 4
 have y5:v1.cell? ⟨(w.heap.size+1+1+1),5,none⟩=some (.string ⟨#[]⟩):=HZv.out.cell 5
 have f5:=HZv.out.free 5
 have y6:v1.cell? ⟨(w.heap.size+1+1+1),6,none⟩=some (.int .i64 0):=HZv.out.cell 6
 have f6:=HZv.out.free 6
 have y7:v1.cell? ⟨(w.heap.size+1+1+1),7,none⟩=some (.string ⟨#[]⟩):=HZv.out.cell 7
 have f7:=HZv.out.free 7
 have y8:v1.cell? ⟨(w.heap.size+1+1+1),8,none⟩=some (.string ⟨#[]⟩):=HZv.out.cell 8
 have f8:=HZv.out.free 8
 have y9:v1.cell? ⟨(w.heap.size+1+1+1),9,none⟩=some (.string ⟨#[]⟩):=HZv.out.cell 9
 have f9:=HZv.out.free 9
 have y10:v1.cell? ⟨(w.heap.size+1+1+1),10,none⟩=some (.int .i64 0):=HZv.out.cell 10
 have f10:=HZv.out.free 10
 have y11:v1.cell? ⟨(w.heap.size+1+1+1),11,none⟩=some (.string ⟨#[]⟩):=HZv.out.cell 11
 have f11:=HZv.out.free 11
 have y12:v1.cell? ⟨(w.heap.size+1+1+1),12,none⟩=some (.string ⟨#[]⟩):=HZv.out.cell 12
 have f12:=HZv.out.free 12
 have y13:v1.cell? ⟨(w.heap.size+1+1+1),13,none⟩=some (.string ⟨#[]⟩):=HZv.out.cell 13
 have f13:=HZv.out.free 13
 have y14:v1.cell? ⟨(w.heap.size+1+1+1),14,none⟩=some (.slice none 0 0):=HZv.out.cell 14
 have f14:=HZv.out.free 14
 have g10:=HBv.out.free 10
 have g11:=HBv.out.free 11
 have g12:=HBv.out.free 12
 have g13:=HBv.out.free 13
 have l0:w.heap.size<v1.heap.size:=HBv.out.lt
 have l3:w.heap.size+1+1+1<v1.heap.size:=HZv.out.lt
 have n3:¬w.heap.size=w.heap.size+1+1+1:=by omega
 clear HB1 HF2 hv1'
 go_wp2
 obtain⟨X2,hX2⟩:∃X,X=((((v1).setCell ⟨w.heap.size,10,none⟩ (.int .i64 U.op)).setCell ⟨w.heap.size,11,none⟩ (.string U.ty)).setCell ⟨w.heap.size,12,none⟩ (.string U.u.t)).setCell ⟨w.heap.size,13,none⟩ (.string U.u.i):=⟨_,rfl⟩
 rw[←hX2]
 have hk2:Keep (fun x=>x=w.heap.size) v1 X2:=by rw[hX2];exact(Keep.trans (Keep.trans (Keep.trans (keep_set _ w.heap.size 10 _) (keep_set _ w.heap.size 11 _) (fun _ e=>.inl e)) (keep_set _ w.heap.size 12 _) (fun _ e=>.inl e)) (keep_set _ w.heap.size 13 _) (fun _ e=>.inl e))
 have HZ:Hid (Blk X2 (w.heap.size+1+1+1) #[.string ⟨#[]⟩,.bool false,.int .i64 0,.string ⟨#[]⟩,.string ⟨#[]⟩,.string ⟨#[]⟩,.int .i64 0,.string ⟨#[]⟩,.string ⟨#[]⟩,.string ⟨#[]⟩,.int .i64 0,.string ⟨#[]⟩,.string ⟨#[]⟩,.string ⟨#[]⟩,.slice none 0 0] 28):=HZv.out.keep hk2 (by omega)
 have hbX2:Below w.heap.size w X2:=hbv1.trans (hk2.below hbv1.size (fun a e=>by have h2:a=w.heap.size:=e;omega))
 clear hX2 hk2 HZv HBv
 obtain⟨Y,hY⟩:∃Y,Y=(((((((((((((((X2).setCell ⟨(w.heap.size+1+1+1),0,none⟩ (.string p.nm)).setCell ⟨(w.heap.size+1+1+1),1,none⟩ (.bool p.fb)).setCell ⟨(w.heap.size+1+1+1),2,none⟩ (.int .i64 S.op)).setCell ⟨(w.heap.size+1+1+1),3,none⟩ (.string S.ty)).setCell ⟨(w.heap.size+1+1+1),4,none⟩ (.string S.u.t)).setCell ⟨(w.heap.size+1+1+1),5,none⟩ (.string S.u.i)).setCell ⟨(w.heap.size+1+1+1),6,none⟩ (.int .i64 p.act.op)).setCell ⟨(w.heap.size+1+1+1),7,none⟩ (.string p.act.ty)).setCell ⟨(w.heap.size+1+1+1),8,none⟩ (.string p.act.u.t)).setCell ⟨(w.heap.size+1+1+1),9,none⟩ (.string p.act.u.i)).setCell ⟨(w.heap.size+1+1+1),10,none⟩ (.int .i64 U.op)).setCell ⟨(w.heap.size+1+1+1),11,none⟩ (.string U.ty)).setCell ⟨(w.heap.size+1+1+1),12,none⟩ (.string U.u.t)).setCell ⟨(w.heap.size+1+1+1),13,none⟩ (.string U.u.i)).setCell ⟨(w.heap.size+1+1+1),14,none⟩ (.slice pc p.cs.length cc):=⟨_,rfl⟩
 rw[←hY]
 obtain⟨hbY,hkY⟩:Blk Y (w.heap.size+1+1+1) #[.string p.nm,.bool p.fb,.int .i64 S.op,.string S.ty,.string S.u.t,.string S.u.i,.int .i64 p.act.op,.string p.act.ty,.string p.act.u.t,.string p.act.u.i,.int .i64 U.op,.string U.ty,.string U.u.t,.string U.u.i,.slice pc p.cs.length cc] 28∧Keep (fun x=>x=(w.heap.size+1+1+1)) X2 Y:=by rw[hY];exact⟨lk_cells15 HZ.out (.string p.nm) (.bool p.fb) (.int .i64 S.op) (.string S.ty) (.string S.u.t) (.string S.u.i) (.int .i64 p.act.op) (.string p.act.ty) (.string p.act.u.t) (.string p.act.u.i) (.int .i64 U.op) (.string U.ty) (.string U.u.t) (.string U.u.i) (.slice pc p.cs.length cc),lk_keep15 _ _ _ _ _ _ _ _ _ _ _ _ _ _ _ _ _⟩
 have HBY:Hid (Below w.heap.size w Y):=(hbX2).trans (hkY.below (hbX2).size (fun a e=>by have h2:a=(w.heap.size+1+1+1):=e;omega))
 clear hY hkY
 have z0:=hbY.cell 0
 have z1:=hbY.cell 1
 have z2:=hbY.cell 2
 have z3:=hbY.cell 3
 have z4:=hbY.cell 4
 have z5:=hbY.cell 5
 have z6:=hbY.cell 6
 have z7:=hbY.cell 7
 have z8:=hbY.cell 8
 have z9:=hbY.cell 9
 have z10:=hbY.cell 10
 have z11:=hbY.cell 11
 have z12:=hbY.cell 12
 have z13:=hbY.cell 13
 have z14:=hbY.cell 14
 simp only[List.getElem?_toArray,List.getElem?_cons_zero,List.getElem?_cons_succ]at z0 z1 z2 z3 z4 z5 z6 z7 z8 z9 z10 z11 z12 z13 z14
 refine bodyPost_ret (v:=.tuple #[.agg #[.string p.nm,.bool p.fb,.int .i64 S.op,.string S.ty,.string S.u.t,.string S.u.i,.int .i64 p.act.op,.string p.act.ty,.string p.act.u.t,.string p.act.u.i,.int .i64 U.op,.string U.ty,.string U.u.t,.string U.u.i,.slice pc p.cs.length cc],.int .i64 0]) (by simp[results,Tryz.results9,go_sem,z0,z1,z2,z3,z4,z5,z6,z7,z8,z9,z10,z11,z12,z13,z14]) rfl ⟨?_,HBY.out⟩
 exact HR.out
theorem linked_ok11 (h0:pof p=0)(h1:hsl p.who=true)(h3:uf who=0)(h2:hsl p.what=true)(h4:uf what=0):
 Calls Tryz.prog 9 #[poV p pc cc,uiV who,uiV what] w fun e w'=>LdRet p pc cc who what e∧Below w.heap.size w w':=by
 obtain⟨V,hV⟩:∃V,V=(((w.alloc (.cells (poC p pc cc) 28)).alloc (.cells #[.string who.t,.string who.i] 23)).alloc (.cells #[.string what.t,.string what.i] 23)).alloc (.cells #[.string ⟨#[]⟩,.bool false,.int .i64 0,.string ⟨#[]⟩,.string ⟨#[]⟩,.string ⟨#[]⟩,.int .i64 0,.string ⟨#[]⟩,.string ⟨#[]⟩,.string ⟨#[]⟩,.int .i64 0,.string ⟨#[]⟩,.string ⟨#[]⟩,.string ⟨#[]⟩,.slice none 0 0] 28):=⟨_,rfl⟩
 have hbV:Below w.heap.size w V:=by rw[hV];exact kqx
 have HA:Hid (∀W,Below V.heap.size V W→Blk W w.heap.size (poC p pc cc) 28∧Blk W (w.heap.size+1) #[.string who.t,.string who.i] 23∧Blk W (w.heap.size+1+1) #[.string what.t,.string what.i] 23∧Blk W (w.heap.size+1+1+1) #[.string ⟨#[]⟩,.bool false,.int .i64 0,.string ⟨#[]⟩,.string ⟨#[]⟩,.string ⟨#[]⟩,.int .i64 0,.string ⟨#[]⟩,.string ⟨#[]⟩,.string ⟨#[]⟩,.int .i64 0,.string ⟨#[]⟩,.string ⟨#[]⟩,.string ⟨#[]⟩,.slice none 0 0] 28):=fun W hW=>by
  have h1:Blk V w.heap.size (poC p pc cc) 28:=by rw[hV];exact(((Blk.new w _ _ rfl).up kqx).up kqx).up kqx
  have h2:Blk V (w.heap.size+1) #[.string who.t,.string who.i] 23:=by rw[hV];refine((Blk.new (w.alloc _) _ _ ?_).up kqx).up kqx;simp
  have h3:Blk V (w.heap.size+1+1) #[.string what.t,.string what.i] 23:=by rw[hV];refine(Blk.new ((w.alloc _).alloc _) _ _ ?_).up kqx;simp
  have h4:Blk V (w.heap.size+1+1+1) #[.string ⟨#[]⟩,.bool false,.int .i64 0,.string ⟨#[]⟩,.string ⟨#[]⟩,.string ⟨#[]⟩,.int .i64 0,.string ⟨#[]⟩,.string ⟨#[]⟩,.string ⟨#[]⟩,.int .i64 0,.string ⟨#[]⟩,.string ⟨#[]⟩,.string ⟨#[]⟩,.slice none 0 0] 28:=by rw[hV];refine Blk.new (((w.alloc _).alloc _).alloc _) _ _ ?_;simp
  exact⟨h1.up hW,h2.up hW,h3.up hW,h4.up hW⟩
 have HC:=policyFault_any p pc cc V (h.up hbV)
 have HS1:=slotted_any p.who
 have HS2:=slotted_any p.what
 have HU1:=fun W=>ruf_any who W hu
 have HU2:=fun W=>ruf_any what W hv
 have HF1:=rfilled_any p.who who
 have HF2:=rfilled_any p.what what
 have hz:fif p.who who=0:=by unfold fif;rw[h1,if_pos rfl];exact h3
 have hy:fif p.what what=0:=by unfold fif;rw[h2,if_pos rfl];exact h4
 have HR:Hid (LdRet p pc cc who what (.returned (.tuple #[poV ⟨p.nm,p.fb,fil p.who who,p.act,fil p.what what,p.cs⟩ pc cc,.int .i64 0]))):=by
  have hl:lkf p who what=0:=by unfold lkf;rw[if_pos h0,if_pos hz];exact hy
  show LdRet _ _ _ _ _ _
  unfold LdRet
  rw[if_pos hl]
  rfl
 rw[h0]at HC
 rw[h1]at HS1
 rw[h2]at HS2
 rw[h3]at HU1
 rw[h4]at HU2
 generalize fil p.who who=S at *
 generalize fil p.what what=U at *
 clear h0 h1 h2 hz hy h3 h4 h hu hv
 unfold poC at hV
 unfold poV uiV at *
 try unfold scV at *
 go_enter Tryz.func9,Tryz.ntmps9
 go_wp2_with fail
 rw[←hV]
 clear hV
 refine HC.mono ?_
 rintro _ w1 ⟨rfl,hb1⟩
 clear HC
 obtain⟨hB0,hB1,hB2,hB3⟩:=HA.out w1 hb1
 obtain⟨x0,x1,x2,x3,x4,x5,x6,x7,x8,x9,x10,x11,x12,x13,x14⟩:=po_cells hB0
 have l0:w.heap.size<w1.heap.size:=hB0.lt
 have l2:w.heap.size+1+1<w1.heap.size:=hB2.lt
 clear hB0 hB1 hB2 hB3
 go_wp2_with fail
 refine(HS1 _).mono ?_
 rintro _ w2 ⟨rfl,hb2'⟩
 have hb2:Below V.heap.size V w2:=kqt hb1 hb2'
 clear HS1 hb2' l0 l2 x0 x1 x2 x3 x4 x5 x6 x7 x8 x9 x10 x11 x12 x13 x14
 obtain⟨hB0,hB1,hB2,hB3⟩:=HA.out w2 hb2
 have u0:=hB1.cell 0
 have u1:=hB1.cell 1
 simp only[List.getElem?_toArray,List.getElem?_cons_zero,List.getElem?_cons_succ]at u0 u1
 have l0:w.heap.size<w2.heap.size:=hB0.lt
 have l2:w.heap.size+1+1<w2.heap.size:=hB2.lt
 clear hB0 hB1 hB2 hB3
 go_wp2_with fail
 refine(HU1 _).mono ?_
 rintro _ w3 ⟨rfl,hb3'⟩
 have hb3:Below V.heap.size V w3:=kqt hb2 hb3'
 clear HU1 hb3' l0 l2 u0 u1
 obtain⟨hB0,hB1,hB2,hB3⟩:=HA.out w3 hb3
 obtain⟨x0,x1,x2,x3,x4,x5,x6,x7,x8,x9,x10,x11,x12,x13,x14⟩:=po_cells hB0
 have l0:w.heap.size<w3.heap.size:=hB0.lt
 have l2:w.heap.size+1+1<w3.heap.size:=hB2.lt
 clear hB0 hB1 hB2 hB3
 go_wp2_with fail
 refine(HS2 _).mono ?_
 rintro _ w4 ⟨rfl,hb4'⟩
 have hb4:Below V.heap.size V w4:=kqt hb3 hb4'
 clear HS2 hb4' l0 l2 x0 x1 x2 x3 x4 x5 x6 x7 x8 x9 x10 x11 x12 x13 x14
 obtain⟨hB0,hB1,hB2,hB3⟩:=HA.out w4 hb4
 have t0:=hB2.cell 0
 have t1:=hB2.cell 1
 simp only[List.getElem?_toArray,List.getElem?_cons_zero,List.getElem?_cons_succ]at t0 t1
 have l0:w.heap.size<w4.heap.size:=hB0.lt
 have l2:w.heap.size+1+1<w4.heap.size:=hB2.lt
 clear hB0 hB1 hB2 hB3
 go_wp2_with fail
 refine(HU2 _).mono ?_
 rintro _ w5 ⟨rfl,hb5'⟩
 have hb5:Below V.heap.size V w5:=kqt hb4 hb5'
 clear HU2 hb5' l0 l2 t0 t1
 obtain⟨hB0,hB1,hB2,hB3⟩:=HA.out w5 hb5
 obtain⟨x0,x1,x2,x3,x4,x5,x6,x7,x8,x9,x10,x11,x12,x13,x14⟩:=po_cells hB0
 have u0:=hB1.cell 0
 have u1:=hB1.cell 1
 simp only[List.getElem?_toArray,List.getElem?_cons_zero,List.getElem?_cons_succ]at u0 u1
 have l0:w.heap.size<w5.heap.size:=hB0.lt
 have l2:w.heap.size+1+1<w5.heap.size:=hB2.lt
 clear hB0 hB1 hB2 hB3
 go_wp2_with fail
 refine(HF1 _).mono ?_
 rintro _ w6 ⟨rfl,hb6'⟩
 have hb6:Below V.heap.size V w6:=kqt hb5 hb6'
 clear HF1 hb6' l0 l2 x0 x1 x2 x3 x4 x5 x6 x7 x8 x9 x10 x11 x12 x13 x14 u0 u1
 obtain⟨hB0,hB1,hB2,hB3⟩:=HA.out w6 hb6
 obtain⟨x0,x1,x2,x3,x4,x5,x6,x7,x8,x9,x10,x11,x12,x13,x14⟩:=po_cells hB0
 have f2:=hB0.free 2
 have f3:=hB0.free 3
 have f4:=hB0.free 4
 have f5:=hB0.free 5
 have t0:=hB2.cell 0
 have t1:=hB2.cell 1
 simp only[List.getElem?_toArray,List.getElem?_cons_zero,List.getElem?_cons_succ]at t0 t1
 have l0:w.heap.size<w6.heap.size:=hB0.lt
 have l2:w.heap.size+1+1<w6.heap.size:=hB2.lt
 have n2:¬w.heap.size=w.heap.size+1+1:=by omega
 have HB:Hid (Blk w6 w.heap.size #[.string p.nm,.bool p.fb,.int .i64 p.who.op,.string p.who.ty,.string p.who.u.t,.string p.who.u.i,.int .i64 p.act.op,.string p.act.ty,.string p.act.u.t,.string p.act.u.i,.int .i64 p.what.op,.string p.what.ty,.string p.what.u.t,.string p.what.u.i,.slice pc p.cs.length cc] 28∧Blk w6 (w.heap.size+1+1+1) #[.string ⟨#[]⟩,.bool false,.int .i64 0,.string ⟨#[]⟩,.string ⟨#[]⟩,.string ⟨#[]⟩,.int .i64 0,.string ⟨#[]⟩,.string ⟨#[]⟩,.string ⟨#[]⟩,.int .i64 0,.string ⟨#[]⟩,.string ⟨#[]⟩,.string ⟨#[]⟩,.slice none 0 0] 28):=⟨hB0,hB3⟩
 clear hB0 hB1 hB2 hB3 HA
 go_wp2_with fail
 obtain⟨X1,hX1⟩:∃X,X=((((w6).setCell ⟨w.heap.size,2,none⟩ (.int .i64 S.op)).setCell ⟨w.heap.size,3,none⟩ (.string S.ty)).setCell ⟨w.heap.size,4,none⟩ (.string S.u.t)).setCell ⟨w.heap.size,5,none⟩ (.string S.u.i):=⟨_,rfl⟩
 rw[←hX1]
 have hk1:Keep (fun x=>x=w.heap.size) w6 X1:=by rw[hX1];exact(Keep.trans (Keep.trans (Keep.trans (keep_set _ w.heap.size 2 _) (keep_set _ w.heap.size 3 _) (fun _ e=>.inl e)) (keep_set _ w.heap.size 4 _) (fun _ e=>.inl e)) (keep_set _ w.heap.size 5 _) (fun _ e=>.inl e))
 have HB1:Hid (Blk X1 w.heap.size #[.string p.nm,.bool p.fb,.int .i64 S.op,.string S.ty,.string S.u.t,.string S.u.i,.int .i64 p.act.op,.string p.act.ty,.string p.act.u.t,.string p.act.u.i,.int .i64 p.what.op,.string p.what.ty,.string p.what.u.t,.string p.what.u.i,.slice pc p.cs.length cc] 28∧Blk X1 (w.heap.size+1+1+1) #[.string ⟨#[]⟩,.bool false,.int .i64 0,.string ⟨#[]⟩,.string ⟨#[]⟩,.string ⟨#[]⟩,.int .i64 0,.string ⟨#[]⟩,.string ⟨#[]⟩,.string ⟨#[]⟩,.int .i64 0,.string ⟨#[]⟩,.string ⟨#[]⟩,.string ⟨#[]⟩,.slice none 0 0] 28):=⟨by rw[hX1];exact((((HB.out.1.set rfl).1.set rfl).1.set rfl).1.set rfl).1,HB.out.2.keep hk1 (by omega)⟩
 have hbX1:Below w.heap.size w X1:=(kqt hbV hb6).trans (hk1.below (kqt hbV hb6).size (fun a e=>by have h2:a=w.heap.size:=e;omega))
 clear hX1 hk1 HB t0 t1 l0 l2 n2 f2 f3 f4 f5 x0 x1 x2 x3 x4 x5 x6 x7 x8 x9 x10 x11 x12 x13 x14
 refine(HF2 _).mono ?_
 rintro _ v1 ⟨rfl,hv1'⟩
 have hbv1:Below w.heap.size w v1:=kqt hbX1 hv1'
 have HBv:Hid (Blk v1 w.heap.size #[.string p.nm,.bool p.fb,.int .i64 S.op,.string S.ty,.string S.u.t,.string S.u.i,.int .i64 p.act.op,.string p.act.ty,.string p.act.u.t,.string p.act.u.i,.int .i64 p.what.op,.string p.what.ty,.string p.what.u.t,.string p.what.u.i,.slice pc p.cs.length cc] 28):=HB1.out.1.up hv1'
 have HZv:Hid (Blk v1 (w.heap.size+1+1+1) #[.string ⟨#[]⟩,.bool false,.int .i64 0,.string ⟨#[]⟩,.string ⟨#[]⟩,.string ⟨#[]⟩,.int .i64 0,.string ⟨#[]⟩,.string ⟨#[]⟩,.string ⟨#[]⟩,.int .i64 0,.string ⟨#[]⟩,.string ⟨#[]⟩,.string ⟨#[]⟩,.slice none 0 0] 28):=HB1.out.2.up hv1'
 have x0:v1.cell? ⟨w.heap.size,0,none⟩=some (.string p.nm):=HBv.out.cell 0
 have x1:v1.cell? ⟨w.heap.size,1,none⟩=some (.bool p.fb):=HBv.out.cell 1
 have x2:v1.cell? ⟨w.heap.size,2,none⟩=some (.int .i64 S.op):=HBv.out.cell 2
 have x3:v1.cell? ⟨w.heap.size,3,none⟩=some (.string S.ty):=HBv.out.cell 3
 have x4:v1.cell? ⟨w.heap.size,4,none⟩=some (.string S.u.t):=HBv.out.cell 4
 have x5:v1.cell? ⟨w.heap.size,5,none⟩=some (.string S.u.i):=HBv.out.cell 5
 have x6:v1.cell? ⟨w.heap.size,6,none⟩=some (.int .i64 p.act.op):=HBv.out.cell 6
 have x7:v1.cell? ⟨w.heap.size,7,none⟩=some (.string p.act.ty):=HBv.out.cell 7
 have x8:v1.cell? ⟨w.heap.size,8,none⟩=some (.string p.act.u.t):=HBv.out.cell 8
 have x9:v1.cell? ⟨w.heap.size,9,none⟩=some (.string p.act.u.i):=HBv.out.cell 9
 have x10:v1.cell? ⟨w.heap.size,10,none⟩=some (.int .i64 p.what.op):=HBv.out.cell 10
 have x11:v1.cell? ⟨w.heap.size,11,none⟩=some (.string p.what.ty):=HBv.out.cell 11
 have x12:v1.cell? ⟨w.heap.size,12,none⟩=some (.string p.what.u.t):=HBv.out.cell 12
 have x13:v1.cell? ⟨w.heap.size,13,none⟩=some (.string p.what.u.i):=HBv.out.cell 13
 have x14:v1.cell? ⟨w.heap.size,14,none⟩=some (.slice pc p.cs.length cc):=HBv.out.cell 14
 have y0:v1.cell? ⟨(w.heap.size+1+1+1),0,none⟩=some (.string ⟨#[]⟩):=HZv.out.cell 0
 have f0:=HZv.out.free 0
 have y1:v1.cell? ⟨(w.heap.size+1+1+1),1,none⟩=some (.bool false):=HZv.out.cell 1
 have f1:=HZv.out.free 1
 have y2:v1.cell? ⟨(w.heap.size+1+1+1),2,none⟩=some (.int .i64 0):=HZv.out.cell 2
 have f2:=HZv.out.free 2
 have y3:v1.cell? ⟨(w.heap.size+1+1+1),3,none⟩=some (.string ⟨#[]⟩):=HZv.out.cell 3
 have f3:=HZv.out.free 3
 have y4:v1.cell? ⟨(w.heap.size+1+1+1),4,none⟩=some (.string ⟨#[]⟩):=HZv.out.cell 4
 have f4:=HZv.out.free 4
 have y5:v1.cell? ⟨(w.heap.size+1+1+1),5,none⟩=some (.string ⟨#[]⟩):=HZv.out.cell 5
 have f5:=HZv.out.free 5
 have y6:v1.cell? ⟨(w.heap.size+1+1+1),6,none⟩=some (.int .i64 0):=HZv.out.cell 6
 have f6:=HZv.out.free 6
 have y7:v1.cell? ⟨(w.heap.size+1+1+1),7,none⟩=some (.string ⟨#[]⟩):=HZv.out.cell 7
 have f7:=HZv.out.free 7
 have y8:v1.cell? ⟨(w.heap.size+1+1+1),8,none⟩=some (.string ⟨#[]⟩):=HZv.out.cell 8
 have f8:=HZv.out.free 8
 have y9:v1.cell? ⟨(w.heap.size+1+1+1),9,none⟩=some (.string ⟨#[]⟩):=HZv.out.cell 9
 have f9:=HZv.out.free 9
 have y10:v1.cell? ⟨(w.heap.size+1+1+1),10,none⟩=some (.int .i64 0):=HZv.out.cell 10
 have f10:=HZv.out.free 10
 have y11:v1.cell? ⟨(w.heap.size+1+1+1),11,none⟩=some (.string ⟨#[]⟩):=HZv.out.cell 11
 have f11:=HZv.out.free 11
 have y12:v1.cell? ⟨(w.heap.size+1+1+1),12,none⟩=some (.string ⟨#[]⟩):=HZv.out.cell 12
 have f12:=HZv.out.free 12
 have y13:v1.cell? ⟨(w.heap.size+1+1+1),13,none⟩=some (.string ⟨#[]⟩):=HZv.out.cell 13
 have f13:=HZv.out.free 13
 have y14:v1.cell? ⟨(w.heap.size+1+1+1),14,none⟩=some (.slice none 0 0):=HZv.out.cell 14
 have f14:=HZv.out.free 14
 have g10:=HBv.out.free 10
 have g11:=HBv.out.free 11
 have g12:=HBv.out.free 12
 have g13:=HBv.out.free 13
 have l0:w.heap.size<v1.heap.size:=HBv.out.lt
 have l3:w.heap.size+1+1+1<v1.heap.size:=HZv.out.lt
 have n3:¬w.heap.size=w.heap.size+1+1+1:=by omega
 clear HB1 HF2 hv1'
 go_wp2
 obtain⟨X2,hX2⟩:∃X,X=((((v1).setCell ⟨w.heap.size,10,none⟩ (.int .i64 U.op)).setCell ⟨w.heap.size,11,none⟩ (.string U.ty)).setCell ⟨w.heap.size,12,none⟩ (.string U.u.t)).setCell ⟨w.heap.size,13,none⟩ (.string U.u.i):=⟨_,rfl⟩
 rw[←hX2]
 have hk2:Keep (fun x=>x=w.heap.size) v1 X2:=by rw[hX2];exact(Keep.trans (Keep.trans (Keep.trans (keep_set _ w.heap.size 10 _) (keep_set _ w.heap.size 11 _) (fun _ e=>.inl e)) (keep_set _ w.heap.size 12 _) (fun _ e=>.inl e)) (keep_set _ w.heap.size 13 _) (fun _ e=>.inl e))
 have HZ:Hid (Blk X2 (w.heap.size+1+1+1) #[.string ⟨#[]⟩,.bool false,.int .i64 0,.string ⟨#[]⟩,.string ⟨#[]⟩,.string ⟨#[]⟩,.int .i64 0,.string ⟨#[]⟩,.string ⟨#[]⟩,.string ⟨#[]⟩,.int .i64 0,.string ⟨#[]⟩,.string ⟨#[]⟩,.string ⟨#[]⟩,.slice none 0 0] 28):=HZv.out.keep hk2 (by omega)
 have hbX2:Below w.heap.size w X2:=hbv1.trans (hk2.below hbv1.size (fun a e=>by have h2:a=w.heap.size:=e;omega))
 clear hX2 hk2 HZv HBv
 obtain⟨Y,hY⟩:∃Y,Y=(((((((((((((((X2).setCell ⟨(w.heap.size+1+1+1),0,none⟩ (.string p.nm)).setCell ⟨(w.heap.size+1+1+1),1,none⟩ (.bool p.fb)).setCell ⟨(w.heap.size+1+1+1),2,none⟩ (.int .i64 S.op)).setCell ⟨(w.heap.size+1+1+1),3,none⟩ (.string S.ty)).setCell ⟨(w.heap.size+1+1+1),4,none⟩ (.string S.u.t)).setCell ⟨(w.heap.size+1+1+1),5,none⟩ (.string S.u.i)).setCell ⟨(w.heap.size+1+1+1),6,none⟩ (.int .i64 p.act.op)).setCell ⟨(w.heap.size+1+1+1),7,none⟩ (.string p.act.ty)).setCell ⟨(w.heap.size+1+1+1),8,none⟩ (.string p.act.u.t)).setCell ⟨(w.heap.size+1+1+1),9,none⟩ (.string p.act.u.i)).setCell ⟨(w.heap.size+1+1+1),10,none⟩ (.int .i64 U.op)).setCell ⟨(w.heap.size+1+1+1),11,none⟩ (.string U.ty)).setCell ⟨(w.heap.size+1+1+1),12,none⟩ (.string U.u.t)).setCell ⟨(w.heap.size+1+1+1),13,none⟩ (.string U.u.i)).setCell ⟨(w.heap.size+1+1+1),14,none⟩ (.slice pc p.cs.length cc):=⟨_,rfl⟩
 rw[←hY]
 obtain⟨hbY,hkY⟩:Blk Y (w.heap.size+1+1+1) #[.string p.nm,.bool p.fb,.int .i64 S.op,.string S.ty,.string S.u.t,.string S.u.i,.int .i64 p.act.op,.string p.act.ty,.string p.act.u.t,.string p.act.u.i,.int .i64 U.op,.string U.ty,.string U.u.t,.string U.u.i,.slice pc p.cs.length cc] 28∧Keep (fun x=>x=(w.heap.size+1+1+1)) X2 Y:=by rw[hY];exact⟨lk_cells15 HZ.out (.string p.nm) (.bool p.fb) (.int .i64 S.op) (.string S.ty) (.string S.u.t) (.string S.u.i) (.int .i64 p.act.op) (.string p.act.ty) (.string p.act.u.t) (.string p.act.u.i) (.int .i64 U.op) (.string U.ty) (.string U.u.t) (.string U.u.i) (.slice pc p.cs.length cc),lk_keep15 _ _ _ _ _ _ _ _ _ _ _ _ _ _ _ _ _⟩
 have HBY:Hid (Below w.heap.size w Y):=(hbX2).trans (hkY.below (hbX2).size (fun a e=>by have h2:a=(w.heap.size+1+1+1):=e;omega))
 clear hY hkY
 have z0:=hbY.cell 0
 have z1:=hbY.cell 1
 have z2:=hbY.cell 2
 have z3:=hbY.cell 3
 have z4:=hbY.cell 4
 have z5:=hbY.cell 5
 have z6:=hbY.cell 6
 have z7:=hbY.cell 7
 have z8:=hbY.cell 8
 have z9:=hbY.cell 9
 have z10:=hbY.cell 10
 have z11:=hbY.cell 11
 have z12:=hbY.cell 12
 have z13:=hbY.cell 13
 have z14:=hbY.cell 14
 simp only[List.getElem?_toArray,List.getElem?_cons_zero,List.getElem?_cons_succ]at z0 z1 z2 z3 z4 z5 z6 z7 z8 z9 z10 z11 z12 z13 z14
 refine bodyPost_ret (v:=.tuple #[.agg #[.string p.nm,.bool p.fb,.int .i64 S.op,.string S.ty,.string S.u.t,.string S.u.i,.int .i64 p.act.op,.string p.act.ty,.string p.act.u.t,.string p.act.u.i,.int .i64 U.op,.string U.ty,.string U.u.t,.string U.u.i,.slice pc p.cs.length cc],.int .i64 0]) (by simp[results,Tryz.results9,go_sem,z0,z1,z2,z3,z4,z5,z6,z7,z8,z9,z10,z11,z12,z13,z14]) rfl ⟨?_,HBY.out⟩
 exact HR.out
theorem linked_any:
 Calls Tryz.prog 9 #[poV p pc cc,uiV who,uiV what] w fun e w'=>LdRet p pc cc who what e∧Below w.heap.size w w':=by
 by_cases h0:pof p=0
 · cases h1:hsl p.who
   · cases h2:hsl p.what
     · exact linked_ok00 p pc cc who what w h hu hv h0 h1 h2
     · by_cases h4:uf what=0
       · exact linked_ok01 p pc cc who what w h hu hv h0 h1 h2 h4
       · exact linked_what0 p pc cc who what w h hu hv h0 h1 h2 h4
   · by_cases h3:uf who=0
     · cases h2:hsl p.what
       · exact linked_ok10 p pc cc who what w h hu hv h0 h1 h3 h2
       · by_cases h4:uf what=0
         · exact linked_ok11 p pc cc who what w h hu hv h0 h1 h3 h2 h4
         · exact linked_what1 p pc cc who what w h hu hv h0 h1 h3 h2 h4
     · exact linked_who p pc cc who what w h hu hv h0 h1 h3
 · exact linked_bad p pc cc who what w h hu hv h0
end
end Go.Proofs.YthhijecpookfhaaGreatDoor
