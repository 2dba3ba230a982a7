/- The statement WordBack returns true of all words and of every line: a walk of its own text over the contracts of package word. -/
import Derived.Test.YtmcjogfopfhblaaDoorWordE
import Derived.Test.YtmcjogfopfhblaaDoorWordW
import Derived.Test.YtmcjogfopfhblaaDoorChain
namespace Go.Proofs.YtmcjogfopfhblaaDoor
open Go.RowKit
set_option linter.unusedVariables false

theorem fact_two : spellL [⟨4, ⟨#[97]⟩, 0⟩, ⟨3, ⟨#[98, 34]⟩, 0⟩] = .ok [63, 97, 32, 34, 98, 92, 34, 34] := by
  unfold spellL
  rw [if_neg (by decide), if_pos (by rfl), if_neg (by decide)]
  rfl
theorem TKL.two (w : World) (t u : Tk) : TKL (w.alloc (.cells #[.int .i64 t.kind, .string t.s, .int .i64 t.at_, .int .i64 u.kind, .string u.s, .int .i64 u.at_] 36)) (some ⟨w.heap.size, 0, none⟩) [t, u] := by
  refine .inr ⟨w.heap.size, 0, rfl, by simp, fun i x hx => ?_⟩
  rcases i with _ | _ | i
  · simp at hx
    subst hx
    simp [go_sem]
  · simp at hx
    subst hx
    simp [go_sem]
  · simp at hx

set_option maxHeartbeats 2000000 in
theorem back_ok_bad (ts : List Tk) (q : Option Addr) (c : Nat) (s : ByteArray) (w : World) (hv : TKL w q ts) (hc : ts.length ≤ maxLen) (hs : ∀ t ∈ ts, t.s.size ≤ 140737488351232) (hm : s.size ≤ maxLen) (hg : ErrVar w)
    (l : List UInt8) (us : List Tk) (hA : spellL ts = .ok l) (hA1 : l.length ≤ 900) (hA2 : readL l = .ok us) (hA3 : us.map at0 = ts.map at0) (x : Int × Nat) (hB : readL s.data.toList = .error x) :
    Calls Tryd.prog 5 #[.slice q ts.length c, .string s] w fun e w' => e = .returned (.bool true) ∧ Below w.heap.size w w' := by
  have hb0 : Below w.heap.size w (w.alloc (.cells #[.int .i64 4, .string ⟨#[97]⟩, .int .i64 0, .int .i64 3, .string ⟨#[98, 34]⟩, .int .i64 0] 36)) := (Below.refl _ _).alloc (Nat.le_refl _) _
  have HF := spell_any [⟨4, ⟨#[97]⟩, 0⟩, ⟨3, ⟨#[98, 34]⟩, 0⟩] (some ⟨w.heap.size, 0, none⟩) 2 _ (TKL.two w ⟨4, ⟨#[97]⟩, 0⟩ ⟨3, ⟨#[98, 34]⟩, 0⟩) (by unfold maxLen; decide) (by intro t ht; simp at ht; rcases ht with rfl | rfl <;> decide)
  rw [fact_two] at HF
  have HS := fun w' (hb : Below w.heap.size w w') => spell_any ts q c w' (hv.up hb) hc hs
  rw [hA] at HS
  have HR := fun w => read_any s w hm
  rw [hB] at HR
  unfold spellV at HF HS
  simp only [] at HF HS
  have Hv : Hid (TKL w q ts) := hv
  have Hg : Hid (ErrVar w) := hg
  have hn3 := spell_many hA
  have hul := map_len hA3
  have Hmap : Hid (us.map at0 = ts.map at0) := hA3
  have HL : Hid ((⟨l.toArray⟩ : ByteArray).data.toList = l) := rfl
  have hLs : (⟨l.toArray⟩ : ByteArray).size ≤ 900 := hA1
  have HRL := fun w => read_any ⟨l.toArray⟩ w (by unfold maxLen; omega)
  rw [HL.out, hA2] at HRL
  generalize (⟨l.toArray⟩ : ByteArray) = LB at *
  clear hg hv hs hA hB hA1 hA2 hA3
  generalize hNt : ts.length = nt at *
  go_enter Tryd.func5, Tryd.ntmps5
  go_wp2_with fail
  refine HF.mono ?_
  rintro e w1 ⟨rfl, hb1'⟩
  have hb1 := bt2 hb0 hb1'
  go_wp2_with fail
  refine (HS _ hb1).mono ?_
  rintro e w2 ⟨rfl, hb2'⟩
  have hb2 := bt2 hb1 hb2'
  go_wp2_with fail
  refine (HRL _).mono ?_
  rintro e w3 ⟨⟨q3, c3, rfl, hk3, _⟩, hb3'⟩
  have hb3 := bt2 hb2 hb3'
  rw [hul]
  go_wp2_with fail
  refine (bare_any us nt q3 c3 w3 hk3 hul hn3).mono ?_
  rintro e w4 ⟨⟨q4, c4, rfl, hk4⟩, hb4'⟩
  have hb4 := bt2 hb3 hb4'
  go_wp2_with fail
  refine (bare_any ts nt q c w4 (Hv.out.up hb4) hNt hn3).mono ?_
  rintro e w5 ⟨⟨q5, c5, rfl, hk5⟩, hb5'⟩
  have hb5 := bt2 hb4 hb5'
  go_wp2_with fail
  refine (sameTok_n (ts.map at0) nt (by rw [List.length_map]; exact hNt) q4 q5 c4 c5 w5 (by rw [← Hmap.out]; exact hk4.up hb5') hk5 hn3).mono ?_
  rintro e w6 ⟨rfl, hb6'⟩
  have hb6 := bt2 hb5 hb6'
  go_wp2_with fail
  refine (HR _).mono ?_
  rintro e w7 ⟨rfl, hb7'⟩
  have hb7 := bt2 hb6 hb7'
  go_wp2
  go_ret
  exact ⟨rfl, hb7⟩

set_option maxHeartbeats 2000000 in
theorem back_ok_full (ts : List Tk) (q : Option Addr) (c : Nat) (s : ByteArray) (w : World) (hv : TKL w q ts) (hc : ts.length ≤ maxLen) (hs : ∀ t ∈ ts, t.s.size ≤ 140737488351232) (hm : s.size ≤ maxLen) (hg : ErrVar w)
    (l : List UInt8) (us : List Tk) (hA : spellL ts = .ok l) (hA1 : l.length ≤ 900) (hA2 : readL l = .ok us) (hA3 : us.map at0 = ts.map at0) (vs : List Tk) (hB : readL s.data.toList = .ok vs) (hB2 : spellL vs = .error 4) :
    Calls Tryd.prog 5 #[.slice q ts.length c, .string s] w fun e w' => e = .returned (.bool true) ∧ Below w.heap.size w w' := by
  have hb0 : Below w.heap.size w (w.alloc (.cells #[.int .i64 4, .string ⟨#[97]⟩, .int .i64 0, .int .i64 3, .string ⟨#[98, 34]⟩, .int .i64 0] 36)) := (Below.refl _ _).alloc (Nat.le_refl _) _
  have HF := spell_any [⟨4, ⟨#[97]⟩, 0⟩, ⟨3, ⟨#[98, 34]⟩, 0⟩] (some ⟨w.heap.size, 0, none⟩) 2 _ (TKL.two w ⟨4, ⟨#[97]⟩, 0⟩ ⟨3, ⟨#[98, 34]⟩, 0⟩) (by unfold maxLen; decide) (by intro t ht; simp at ht; rcases ht with rfl | rfl <;> decide)
  rw [fact_two] at HF
  have HS := fun w' (hb : Below w.heap.size w w') => spell_any ts q c w' (hv.up hb) hc hs
  rw [hA] at HS
  have HR := fun w => read_any s w hm
  rw [hB] at HR
  unfold spellV at HF HS
  simp only [] at HF HS
  have Hv : Hid (TKL w q ts) := hv
  have Hg : Hid (ErrVar w) := hg
  have hn3 := spell_many hA
  have hul := map_len hA3
  have Hmap : Hid (us.map at0 = ts.map at0) := hA3
  have HL : Hid ((⟨l.toArray⟩ : ByteArray).data.toList = l) := rfl
  have hLs : (⟨l.toArray⟩ : ByteArray).size ≤ 900 := hA1
  have HRL := fun w => read_any ⟨l.toArray⟩ w (by unfold maxLen; omega)
  rw [HL.out, hA2] at HRL
  generalize (⟨l.toArray⟩ : ByteArray) = LB at *
  have hvs := read_small hB
  have hv3 := read_many hB
  have HSV := fun (q' : Option Addr) (c' : Nat) (w' : World) (h : TKL w' q' vs) => spell_any vs q' c' w' h (by unfold maxLen; omega) (fun t ht => Nat.le_trans (hvs t ht) (by omega))
  rw [hB2] at HSV
  unfold spellV at HSV
  simp only [] at HSV
  clear hg hv hs hA hB hA1 hA2 hA3 hB2 hvs
  generalize hNt : ts.length = nt at *
  go_enter Tryd.func5, Tryd.ntmps5
  go_wp2_with fail
  refine HF.mono ?_
  rintro e w1 ⟨rfl, hb1'⟩
  have hb1 := bt2 hb0 hb1'
  go_wp2_with fail
  refine (HS _ hb1).mono ?_
  rintro e w2 ⟨rfl, hb2'⟩
  have hb2 := bt2 hb1 hb2'
  go_wp2_with fail
  refine (HRL _).mono ?_
  rintro e w3 ⟨⟨q3, c3, rfl, hk3, _⟩, hb3'⟩
  have hb3 := bt2 hb2 hb3'
  rw [hul]
  go_wp2_with fail
  refine (bare_any us nt q3 c3 w3 hk3 hul hn3).mono ?_
  rintro e w4 ⟨⟨q4, c4, rfl, hk4⟩, hb4'⟩
  have hb4 := bt2 hb3 hb4'
  go_wp2_with fail
  refine (bare_any ts nt q c w4 (Hv.out.up hb4) hNt hn3).mono ?_
  rintro e w5 ⟨⟨q5, c5, rfl, hk5⟩, hb5'⟩
  have hb5 := bt2 hb4 hb5'
  go_wp2_with fail
  refine (sameTok_n (ts.map at0) nt (by rw [List.length_map]; exact hNt) q4 q5 c4 c5 w5 (by rw [← Hmap.out]; exact hk4.up hb5') hk5 hn3).mono ?_
  rintro e w6 ⟨rfl, hb6'⟩
  have hb6 := bt2 hb5 hb6'
  go_wp2_with fail
  refine (HR _).mono ?_
  rintro e w7 ⟨⟨q7, c7, rfl, hk7, _⟩, hb7'⟩
  have hb7 := bt2 hb6 hb7'
  go_wp2_with fail
  refine (HSV q7 c7 _ hk7).mono ?_
  rintro e w8 ⟨rfl, hb8'⟩
  have hb8 := bt2 hb7 hb8'
  have He := toldE_any 4 4 w8 (ev_up Hg.out hb8)
  rw [eV_not (by decide)] at He
  go_wp2_with fail
  refine He.mono ?_
  rintro e w9 ⟨rfl, hb9⟩
  go_wp2
  go_ret
  exact ⟨rfl, bt2 hb8 hb9⟩

set_option maxHeartbeats 2000000 in
theorem back_ok_ok (ts : List Tk) (q : Option Addr) (c : Nat) (s : ByteArray) (w : World) (hv : TKL w q ts) (hc : ts.length ≤ maxLen) (hs : ∀ t ∈ ts, t.s.size ≤ 140737488351232) (hm : s.size ≤ maxLen) (hg : ErrVar w)
    (l : List UInt8) (us : List Tk) (hA : spellL ts = .ok l) (hA1 : l.length ≤ 900) (hA2 : readL l = .ok us) (hA3 : us.map at0 = ts.map at0) (vs zs : List Tk) (m : List UInt8) (hB : readL s.data.toList = .ok vs) (hB2 : spellL vs = .ok m) (hB3 : m.length ≤ 900) (hB4 : readL m = .ok zs) (hB5 : zs.map at0 = vs.map at0) :
    Calls Tryd.prog 5 #[.slice q ts.length c, .string s] w fun e w' => e = .returned (.bool true) ∧ Below w.heap.size w w' := by
  have hb0 : Below w.heap.size w (w.alloc (.cells #[.int .i64 4, .string ⟨#[97]⟩, .int .i64 0, .int .i64 3, .string ⟨#[98, 34]⟩, .int .i64 0] 36)) := (Below.refl _ _).alloc (Nat.le_refl _) _
  have HF := spell_any [⟨4, ⟨#[97]⟩, 0⟩, ⟨3, ⟨#[98, 34]⟩, 0⟩] (some ⟨w.heap.size, 0, none⟩) 2 _ (TKL.two w ⟨4, ⟨#[97]⟩, 0⟩ ⟨3, ⟨#[98, 34]⟩, 0⟩) (by unfold maxLen; decide) (by intro t ht; simp at ht; rcases ht with rfl | rfl <;> decide)
  rw [fact_two] at HF
  have HS := fun w' (hb : Below w.heap.size w w') => spell_any ts q c w' (hv.up hb) hc hs
  rw [hA] at HS
  have HR := fun w => read_any s w hm
  rw [hB] at HR
  unfold spellV at HF HS
  simp only [] at HF HS
  have Hv : Hid (TKL w q ts) := hv
  have Hg : Hid (ErrVar w) := hg
  have hn3 := spell_many hA
  have hul := map_len hA3
  have Hmap : Hid (us.map at0 = ts.map at0) := hA3
  have HL : Hid ((⟨l.toArray⟩ : ByteArray).data.toList = l) := rfl
  have hLs : (⟨l.toArray⟩ : ByteArray).size ≤ 900 := hA1
  have HRL := fun w => read_any ⟨l.toArray⟩ w (by unfold maxLen; omega)
  rw [HL.out, hA2] at HRL
  generalize (⟨l.toArray⟩ : ByteArray) = LB at *
  have hvs := read_small hB
  have hv3 := read_many hB
  have HSV := fun (q' : Option Addr) (c' : Nat) (w' : World) (h : TKL w' q' vs) => spell_any vs q' c' w' h (by unfold maxLen; omega) (fun t ht => Nat.le_trans (hvs t ht) (by omega))
  rw [hB2] at HSV
  unfold spellV at HSV
  simp only [] at HSV
  have hzl := map_len hB5
  have Hmap2 : Hid (zs.map at0 = vs.map at0) := hB5
  have HM : Hid ((⟨m.toArray⟩ : ByteArray).data.toList = m) := rfl
  have hMs : (⟨m.toArray⟩ : ByteArray).size ≤ 900 := hB3
  have HRM := fun w => read_any ⟨m.toArray⟩ w (by unfold maxLen; omega)
  rw [HM.out, hB4] at HRM
  generalize (⟨m.toArray⟩ : ByteArray) = MB at *
  clear hg hv hs hA hB hA1 hA2 hA3 hB2 hvs hB3 hB4 hB5
  generalize hNt : ts.length = nt at *
  go_enter Tryd.func5, Tryd.ntmps5
  go_wp2_with fail
  refine HF.mono ?_
  rintro e w1 ⟨rfl, hb1'⟩
  have hb1 := bt2 hb0 hb1'
  go_wp2_with fail
  refine (HS _ hb1).mono ?_
  rintro e w2 ⟨rfl, hb2'⟩
  have hb2 := bt2 hb1 hb2'
  go_wp2_with fail
  refine (HRL _).mono ?_
  rintro e w3 ⟨⟨q3, c3, rfl, hk3, _⟩, hb3'⟩
  have hb3 := bt2 hb2 hb3'
  rw [hul]
  go_wp2_with fail
  refine (bare_any us nt q3 c3 w3 hk3 hul hn3).mono ?_
  rintro e w4 ⟨⟨q4, c4, rfl, hk4⟩, hb4'⟩
  have hb4 := bt2 hb3 hb4'
  go_wp2_with fail
  refine (bare_any ts nt q c w4 (Hv.out.up hb4) hNt hn3).mono ?_
  rintro e w5 ⟨⟨q5, c5, rfl, hk5⟩, hb5'⟩
  have hb5 := bt2 hb4 hb5'
  go_wp2_with fail
  refine (sameTok_n (ts.map at0) nt (by rw [List.length_map]; exact hNt) q4 q5 c4 c5 w5 (by rw [← Hmap.out]; exact hk4.up hb5') hk5 hn3).mono ?_
  rintro e w6 ⟨rfl, hb6'⟩
  have hb6 := bt2 hb5 hb6'
  go_wp2_with fail
  refine (HR _).mono ?_
  rintro e w7 ⟨⟨q7, c7, rfl, hk7, _⟩, hb7'⟩
  have hb7 := bt2 hb6 hb7'
  go_wp2_with fail
  refine (HSV q7 c7 _ hk7).mono ?_
  rintro e w8 ⟨rfl, hb8'⟩
  have hb8 := bt2 hb7 hb8'
  generalize hNv : vs.length = nv at *
  go_wp2_with fail
  refine (HRM _).mono ?_
  rintro e w9 ⟨⟨q9, c9, rfl, hk9, _⟩, hb9'⟩
  have hb9 := bt2 hb8 hb9'
  rw [hzl]
  go_wp2_with fail
  refine (bare_any zs nv q9 c9 w9 hk9 hzl hv3).mono ?_
  rintro e w10 ⟨⟨q10, c10, rfl, hk10⟩, hb10'⟩
  have hb10 := bt2 hb9 hb10'
  go_wp2_with fail
  refine (bare_any vs nv q7 c7 w10 (((hk7.up hb8').up hb9').up hb10') hNv hv3).mono ?_
  rintro e w11 ⟨⟨q11, c11, rfl, hk11⟩, hb11'⟩
  have hb11 := bt2 hb10 hb11'
  go_wp2_with fail
  refine (sameTok_n (vs.map at0) nv (by rw [List.length_map]; exact hNv) q10 q11 c10 c11 w11 (by rw [← Hmap2.out]; exact hk10.up hb11') hk11 hv3).mono ?_
  rintro e w12 ⟨rfl, hb12'⟩
  have hb12 := bt2 hb11 hb12'
  go_wp2
  go_ret
  exact ⟨rfl, hb12⟩

set_option maxHeartbeats 2000000 in
theorem back_err_bad (ts : List Tk) (q : Option Addr) (c : Nat) (s : ByteArray) (w : World) (hv : TKL w q ts) (hc : ts.length ≤ maxLen) (hs : ∀ t ∈ ts, t.s.size ≤ 140737488351232) (hm : s.size ≤ maxLen) (hg : ErrVar w)
    (n1 : Int) (hA : spellL ts = .error n1) (x : Int × Nat) (hB : readL s.data.toList = .error x) :
    Calls Tryd.prog 5 #[.slice q ts.length c, .string s] w fun e w' => e = .returned (.bool true) ∧ Below w.heap.size w w' := by
  have hb0 : Below w.heap.size w (w.alloc (.cells #[.int .i64 4, .string ⟨#[97]⟩, .int .i64 0, .int .i64 3, .string ⟨#[98, 34]⟩, .int .i64 0] 36)) := (Below.refl _ _).alloc (Nat.le_refl _) _
  have HF := spell_any [⟨4, ⟨#[97]⟩, 0⟩, ⟨3, ⟨#[98, 34]⟩, 0⟩] (some ⟨w.heap.size, 0, none⟩) 2 _ (TKL.two w ⟨4, ⟨#[97]⟩, 0⟩ ⟨3, ⟨#[98, 34]⟩, 0⟩) (by unfold maxLen; decide) (by intro t ht; simp at ht; rcases ht with rfl | rfl <;> decide)
  rw [fact_two] at HF
  have HS := fun w' (hb : Below w.heap.size w w') => spell_any ts q c w' (hv.up hb) hc hs
  rw [hA] at HS
  have HR := fun w => read_any s w hm
  rw [hB] at HR
  unfold spellV at HF HS
  simp only [] at HF HS
  have Hv : Hid (TKL w q ts) := hv
  have Hg : Hid (ErrVar w) := hg
  clear hg hv hs hA hB
  generalize hNt : ts.length = nt at *
  go_enter Tryd.func5, Tryd.ntmps5
  go_wp2_with fail
  refine HF.mono ?_
  rintro e w1 ⟨rfl, hb1'⟩
  have hb1 := bt2 hb0 hb1'
  go_wp2_with fail
  refine (HS _ hb1).mono ?_
  rintro e w2 ⟨rfl, hb2'⟩
  have hb2 := bt2 hb1 hb2'
  go_wp2_with fail
  refine (HR _).mono ?_
  rintro e w7 ⟨rfl, hb7'⟩
  have hb7 := bt2 hb2 hb7'
  go_wp2
  go_ret
  exact ⟨rfl, hb7⟩

set_option maxHeartbeats 2000000 in
theorem back_err_full (ts : List Tk) (q : Option Addr) (c : Nat) (s : ByteArray) (w : World) (hv : TKL w q ts) (hc : ts.length ≤ maxLen) (hs : ∀ t ∈ ts, t.s.size ≤ 140737488351232) (hm : s.size ≤ maxLen) (hg : ErrVar w)
    (n1 : Int) (hA : spellL ts = .error n1) (vs : List Tk) (hB : readL s.data.toList = .ok vs) (hB2 : spellL vs = .error 4) :
    Calls Tryd.prog 5 #[.slice q ts.length c, .string s] w fun e w' => e = .returned (.bool true) ∧ Below w.heap.size w w' := by
  have hb0 : Below w.heap.size w (w.alloc (.cells #[.int .i64 4, .string ⟨#[97]⟩, .int .i64 0, .int .i64 3, .string ⟨#[98, 34]⟩, .int .i64 0] 36)) := (Below.refl _ _).alloc (Nat.le_refl _) _
  have HF := spell_any [⟨4, ⟨#[97]⟩, 0⟩, ⟨3, ⟨#[98, 34]⟩, 0⟩] (some ⟨w.heap.size, 0, none⟩) 2 _ (TKL.two w ⟨4, ⟨#[97]⟩, 0⟩ ⟨3, ⟨#[98, 34]⟩, 0⟩) (by unfold maxLen; decide) (by intro t ht; simp at ht; rcases ht with rfl | rfl <;> decide)
  rw [fact_two] at HF
  have HS := fun w' (hb : Below w.heap.size w w') => spell_any ts q c w' (hv.up hb) hc hs
  rw [hA] at HS
  have HR := fun w => read_any s w hm
  rw [hB] at HR
  unfold spellV at HF HS
  simp only [] at HF HS
  have Hv : Hid (TKL w q ts) := hv
  have Hg : Hid (ErrVar w) := hg
  have hvs := read_small hB
  have hv3 := read_many hB
  have HSV := fun (q' : Option Addr) (c' : Nat) (w' : World) (h : TKL w' q' vs) => spell_any vs q' c' w' h (by unfold maxLen; omega) (fun t ht => Nat.le_trans (hvs t ht) (by omega))
  rw [hB2] at HSV
  unfold spellV at HSV
  simp only [] at HSV
  clear hg hv hs hA hB hB2 hvs
  generalize hNt : ts.length = nt at *
  go_enter Tryd.func5, Tryd.ntmps5
  go_wp2_with fail
  refine HF.mono ?_
  rintro e w1 ⟨rfl, hb1'⟩
  have hb1 := bt2 hb0 hb1'
  go_wp2_with fail
  refine (HS _ hb1).mono ?_
  rintro e w2 ⟨rfl, hb2'⟩
  have hb2 := bt2 hb1 hb2'
  go_wp2_with fail
  refine (HR _).mono ?_
  rintro e w7 ⟨⟨q7, c7, rfl, hk7, _⟩, hb7'⟩
  have hb7 := bt2 hb2 hb7'
  go_wp2_with fail
  refine (HSV q7 c7 _ hk7).mono ?_
  rintro e w8 ⟨rfl, hb8'⟩
  have hb8 := bt2 hb7 hb8'
  have He := toldE_any 4 4 w8 (ev_up Hg.out hb8)
  rw [eV_not (by decide)] at He
  go_wp2_with fail
  refine He.mono ?_
  rintro e w9 ⟨rfl, hb9⟩
  go_wp2
  go_ret
  exact ⟨rfl, bt2 hb8 hb9⟩

set_option maxHeartbeats 2000000 in
theorem back_err_ok (ts : List Tk) (q : Option Addr) (c : Nat) (s : ByteArray) (w : World) (hv : TKL w q ts) (hc : ts.length ≤ maxLen) (hs : ∀ t ∈ ts, t.s.size ≤ 140737488351232) (hm : s.size ≤ maxLen) (hg : ErrVar w)
    (n1 : Int) (hA : spellL ts = .error n1) (vs zs : List Tk) (m : List UInt8) (hB : readL s.data.toList = .ok vs) (hB2 : spellL vs = .ok m) (hB3 : m.length ≤ 900) (hB4 : readL m = .ok zs) (hB5 : zs.map at0 = vs.map at0) :
    Calls Tryd.prog 5 #[.slice q ts.length c, .string s] w fun e w' => e = .returned (.bool true) ∧ Below w.heap.size w w' := by
  have hb0 : Below w.heap.size w (w.alloc (.cells #[.int .i64 4, .string ⟨#[97]⟩, .int .i64 0, .int .i64 3, .string ⟨#[98, 34]⟩, .int .i64 0] 36)) := (Below.refl _ _).alloc (Nat.le_refl _) _
  have HF := spell_any [⟨4, ⟨#[97]⟩, 0⟩, ⟨3, ⟨#[98, 34]⟩, 0⟩] (some ⟨w.heap.size, 0, none⟩) 2 _ (TKL.two w ⟨4, ⟨#[97]⟩, 0⟩ ⟨3, ⟨#[98, 34]⟩, 0⟩) (by unfold maxLen; decide) (by intro t ht; simp at ht; rcases ht with rfl | rfl <;> decide)
  rw [fact_two] at HF
  have HS := fun w' (hb : Below w.heap.size w w') => spell_any ts q c w' (hv.up hb) hc hs
  rw [hA] at HS
  have HR := fun w => read_any s w hm
  rw [hB] at HR
  unfold spellV at HF HS
  simp only [] at HF HS
  have Hv : Hid (TKL w q ts) := hv
  have Hg : Hid (ErrVar w) := hg
  have hvs := read_small hB
  have hv3 := read_many hB
  have HSV := fun (q' : Option Addr) (c' : Nat) (w' : World) (h : TKL w' q' vs) => spell_any vs q' c' w' h (by unfold maxLen; omega) (fun t ht => Nat.le_trans (hvs t ht) (by omega))
  rw [hB2] at HSV
  unfold spellV at HSV
  simp only [] at HSV
  have hzl := map_len hB5
  have Hmap2 : Hid (zs.map at0 = vs.map at0) := hB5
  have HM : Hid ((⟨m.toArray⟩ : ByteArray).data.toList = m) := rfl
  have hMs : (⟨m.toArray⟩ : ByteArray).size ≤ 900 := hB3
  have HRM := fun w => read_any ⟨m.toArray⟩ w (by unfold maxLen; omega)
  rw [HM.out, hB4] at HRM
  generalize (⟨m.toArray⟩ : ByteArray) = MB at *
  clear hg hv hs hA hB hB2 hvs hB3 hB4 hB5
  generalize hNt : ts.length = nt at *
  go_enter Tryd.func5, Tryd.ntmps5
  go_wp2_with fail
  refine HF.mono ?_
  rintro e w1 ⟨rfl, hb1'⟩
  have hb1 := bt2 hb0 hb1'
  go_wp2_with fail
  refine (HS _ hb1).mono ?_
  rintro e w2 ⟨rfl, hb2'⟩
  have hb2 := bt2 hb1 hb2'
  go_wp2_with fail
  refine (HR _).mono ?_
  rintro e w7 ⟨⟨q7, c7, rfl, hk7, _⟩, hb7'⟩
  have hb7 := bt2 hb2 hb7'
  go_wp2_with fail
  refine (HSV q7 c7 _ hk7).mono ?_
  rintro e w8 ⟨rfl, hb8'⟩
  have hb8 := bt2 hb7 hb8'
  generalize hNv : vs.length = nv at *
  go_wp2_with fail
  refine (HRM _).mono ?_
  rintro e w9 ⟨⟨q9, c9, rfl, hk9, _⟩, hb9'⟩
  have hb9 := bt2 hb8 hb9'
  rw [hzl]
  go_wp2_with fail
  refine (bare_any zs nv q9 c9 w9 hk9 hzl hv3).mono ?_
  rintro e w10 ⟨⟨q10, c10, rfl, hk10⟩, hb10'⟩
  have hb10 := bt2 hb9 hb10'
  go_wp2_with fail
  refine (bare_any vs nv q7 c7 w10 (((hk7.up hb8').up hb9').up hb10') hNv hv3).mono ?_
  rintro e w11 ⟨⟨q11, c11, rfl, hk11⟩, hb11'⟩
  have hb11 := bt2 hb10 hb11'
  go_wp2_with fail
  refine (sameTok_n (vs.map at0) nv (by rw [List.length_map]; exact hNv) q10 q11 c10 c11 w11 (by rw [← Hmap2.out]; exact hk10.up hb11') hk11 hv3).mono ?_
  rintro e w12 ⟨rfl, hb12'⟩
  have hb12 := bt2 hb11 hb12'
  go_wp2
  go_ret
  exact ⟨rfl, hb12⟩

theorem wordBack_true (ts : List Tk) (q : Option Addr) (c : Nat) (s : ByteArray) (w : World) (hv : TKL w q ts) (hc : ts.length ≤ maxLen) (hs : ∀ t ∈ ts, t.s.size ≤ 140737488351232) (hm : s.size ≤ maxLen) (hg : ErrVar w) :
    Calls Tryd.prog 5 #[.slice q ts.length c, .string s] w fun e w' => e = .returned (.bool true) ∧ Below w.heap.size w w' := by
  cases hA : spellL ts with
  | ok l =>
    obtain ⟨a1, us, a2, a3⟩ := spell_read hA
    cases hB : readL s.data.toList with
    | error x => exact back_ok_bad ts q c s w hv hc hs hm hg l us hA a1 a2 a3 x hB
    | ok vs =>
      rcases (read_spell hB).2 with hB2 | ⟨m, hB2⟩
      · exact back_ok_full ts q c s w hv hc hs hm hg l us hA a1 a2 a3 vs hB hB2
      · obtain ⟨b1, zs, b2, b3⟩ := spell_read hB2
        exact back_ok_ok ts q c s w hv hc hs hm hg l us hA a1 a2 a3 vs zs m hB hB2 b1 b2 b3
  | error n =>
    cases hB : readL s.data.toList with
    | error x => exact back_err_bad ts q c s w hv hc hs hm hg n hA x hB
    | ok vs =>
      rcases (read_spell hB).2 with hB2 | ⟨m, hB2⟩
      · exact back_err_full ts q c s w hv hc hs hm hg n hA vs hB hB2
      · obtain ⟨b1, zs, b2, b3⟩ := spell_read hB2
        exact back_err_ok ts q c s w hv hc hs hm hg n hA vs zs m hB hB2 b1 b2 b3
end Go.Proofs.YtmcjogfopfhblaaDoor
