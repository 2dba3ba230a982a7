/- What words say, plain: the whole of it, and what follows. No program is named here. The first lines of the statements of chapter 9: what their words are, and what the words say. Whether two lists of nodes are the same: package wicketgatesame's Nodes, by a walk of its own text. Lists of lists of nodes in memory; the first of them that is no value. Rows that a call makes: lists of lists of nodes; what an append does to one of them, and that it leaves the others alone. What a reader of words sees, step by step, plain: words that stand for themselves, how long a form is, the parser's steps. No program is named here. A reader of words in memory: its block, what is kept but for it. Package phrase's reader: need, itself, ahead, says, passes, pass, take; by walks of their own texts. Package phrase's reader: pass, take; by walks of their own texts. Maps from texts to whole numbers, as the call lays them: made, put, looked up. -/
import Derived.Test.YtpbnjdgedifnoaaGreatDoorG4
import Derived.Test.YtpbnjdgedifnoaaGreatDoorG2
import Derived.KernelRfl
import Derived.Test.YtpbnjdgedifnoaaGreatDoorG3
import Derived.Laws.StructEq
import Derived.Test.YtpbnjdgedifnoaaGreatDoorG1
import Derived.StillTailTactics
import Derived.Deep.QuietTactic
import Derived.Maps.OwnSet
namespace Go.Proofs.YtpbnjdgedifnoaaGreatDoor
set_option linter.unusedVariables false

def bT : Tk := ⟨0, ⟨#[]⟩, 0⟩
/-- What words say; or where it is wrong, and the error's number. -/
def parseL (ts : List Tk) : Except (Nat × Int) (List Nd) :=
  if 300 < ts.length then .error (0, 4)
  else match ts.findIdx? (fun t => !spB t) with
    | some i => .error (i, 1)
    | none =>
      match acc ps0 bT ts with
      | some x => .error (ts.length - x.1, x.2)
      | none =>
        match prs ts with
        | .ok x => if 200 < x.1.length then .error (0, 4) else .ok x.1
        | .error _ => .error (0, 0)

theorem find_none {ts : List Tk} : ts.findIdx? (fun t => !spB t) = none ↔ AllS ts := by
  rw [List.findIdx?_eq_none_iff]
  constructor
  · intro h t ht; have := h t ht; simpa using this
  · intro h t ht; have := h t ht; simpa using this
theorem AllS.kinds {ts : List Tk} (h : AllS ts) : AllK ts := fun t ht => spB_kOk (h t ht)

theorem parse_ok {ts : List Tk} {e : List Nd} (hl : ts.length ≤ 300) (hs : AllS ts) (hd : Der 0 ts e) (he : e.length ≤ 200) : parseL ts = .ok e := by
  unfold parseL
  rw [if_neg (by omega), find_none.2 hs, acc_der hs.kinds hd, prs_der hd]
  simp only
  rw [if_neg (by omega)]
theorem ok_parse {ts : List Tk} {e : List Nd} (h : parseL ts = .ok e) : ts.length ≤ 300 ∧ AllS ts ∧ Der 0 ts e ∧ e.length ≤ 200 := by
  unfold parseL at h
  split at h
  · cases h
  · rename_i hl
    cases hf : ts.findIdx? (fun t => !spB t) with
    | some i => rw [hf] at h; cases h
    | none =>
      rw [hf] at h
      have hs := find_none.1 hf
      cases ha : acc ps0 bT ts with
      | some x => rw [ha] at h; cases h
      | none =>
        rw [ha] at h
        obtain ⟨e', hd⟩ := der_acc hs.kinds ha
        rw [prs_der hd] at h
        simp only at h
        split at h
        · cases h
        · injection h with h
          subst h
          exact ⟨by omega, hs, hd, by omega⟩
/-- A line with too many nodes. -/
theorem parse_full {ts : List Tk} {e : List Nd} (hl : ts.length ≤ 300) (hs : AllS ts) (hd : Der 0 ts e) (he : 200 < e.length) : parseL ts = .error (0, 4) := by
  unfold parseL
  rw [if_neg (by omega), find_none.2 hs, acc_der hs.kinds hd, prs_der hd]
  simp only
  rw [if_pos he]
theorem parse_halt {ts : List Tk} {x : Nat × Int} (hl : ts.length ≤ 300) (hs : AllS ts) (ha : acc ps0 bT ts = some x) : parseL ts = .error (ts.length - x.1, x.2) := by
  unfold parseL
  rw [if_neg (by omega), find_none.2 hs, ha]
/-- No line: it halts somewhere. -/
theorem error_parse {ts : List Tk} {i : Nat} {k : Int} (hl : ts.length ≤ 300) (hs : AllS ts) (h : parseL ts = .error (i, k)) (hk : k ≠ 4) : ∃ n, acc ps0 bT ts = some (n, k) ∧ i = ts.length - n := by
  cases ha : acc ps0 bT ts with
  | some x =>
    rw [parse_halt hl hs ha] at h
    injection h with h
    injection h with h1 h2
    exact ⟨x.1, by rw [← h2], h1.symm⟩
  | none =>
    obtain ⟨e, hd⟩ := der_acc hs.kinds ha
    by_cases he : 200 < e.length
    · rw [parse_full hl hs hd he] at h
      injection h with h
      injection h with h1 h2
      exact absurd h2.symm hk
    · rw [parse_ok hl hs hd (by omega)] at h; cases h

/-- What is printed is read. -/
theorem parse_print {v : List Nd} (hx : xfault v = 0) (hN : ∀ x ∈ v, n64 x) (hl : (wrd v).length ≤ 300) : parseL (wrd v) = .ok v := by
  obtain ⟨h1, h2⟩ := xfault_zero hx
  exact parse_ok hl (wd_spB _ v [] h2 hN) (ex_der h2 hN) h1
/-- In brackets it is the same. -/
theorem parse_round {ts : List Tk} {e : List Nd} (h : parseL ts = .ok e) (hl : ts.length + 2 ≤ 300) {t u : Tk} (ht : sgn t [40] = true) (hu : sgn u [41] = true) (h1 : spB t = true) (h2 : spB u = true) : parseL (t :: (ts ++ [u])) = .ok e := by
  obtain ⟨_, hs, hd, he⟩ := ok_parse h
  exact parse_ok (by simp; omega) (AllS.cons h1 (hs.append (AllS.cons h2 AllS.nil))) (der_to (Der.round t u ts e ht hu hd) (by omega) (by omega)) he
/-- Three with a sign between: the first two, and then the third one. -/
theorem parse_left {a b c : List Tk} {x y z : List Nd} (ha : parseL a = .ok x) (hb : parseL b = .ok y) (hc : parseL c = .ok z) {t u s : Tk} (ht : sgn t [40] = true) (hu : sgn u [41] = true) (h1 : spB t = true) (h2 : spB u = true) (h3 : spB s = true)
    {l : Nat} (hl : lftL l) (hs : lvlS l s = true) (hw : a.length + b.length + c.length + 8 ≤ 300) (hn : x.length + y.length + z.length + 2 ≤ 200) :
    parseL ((t :: (a ++ [u])) ++ s :: ((t :: (b ++ [u])) ++ s :: (t :: (c ++ [u])))) = .ok (opN (opOf s) :: opN (opOf s) :: (x ++ (y ++ z))) := by
  obtain ⟨_, sa, da, _⟩ := ok_parse ha
  obtain ⟨_, sb, db, _⟩ := ok_parse hb
  obtain ⟨_, sc, dc, _⟩ := ok_parse hc
  have hl8 : l ≤ 7 := by unfold lftL at hl; omega
  have ra := der_to (Der.round t u a x ht hu da) (m := l) (by omega) (by omega)
  have rb := der_to (Der.round t u b y ht hu db) (m := l + 1) (by omega) (by omega)
  have rc := der_to (Der.round t u c z ht hu dc) (m := l + 1) (by omega) (by omega)
  have d := Der.bin l s _ _ _ _ hl hs (Der.bin l s _ _ _ _ hl hs ra rb) rc
  have br : ∀ w, AllS w → AllS (t :: (w ++ [u])) := fun w hw => AllS.cons h1 (hw.append (AllS.cons h2 AllS.nil))
  refine parse_ok (by simp; omega) ((br a sa).append (AllS.cons h3 ((br b sb).append (AllS.cons h3 (br c sc))))) ?_ (by simp; omega)
  have d0 := der_to d (m := 0) (by omega) (by omega)
  simpa using d0

/-- Where a word cannot stand it cannot, whatever stands behind. -/
theorem acc_more : ∀ (l : List Tk) (s : PS) (b : Tk) (n : Nat) (k : Int) (m : List Tk), acc s b l = some (n + 1, k) → acc s b (l ++ m) = some (n + 1 + m.length, k)
  | [], s, b, n, k, m, h => by
    rw [acc_nil] at h
    split at h
    · cases h
    · injection h with h; injection h with h; omega
  | t :: r, s, b, n, k, m, h => by
    rw [acc_cons] at h
    rw [List.cons_append, acc_cons]
    cases ho : s.next t b with
    | none =>
      rw [ho] at h
      rw [stp_none] at h ⊢
      injection h with h; injection h with h1 h2
      rw [← h2, List.length_append]
      have : r.length + m.length + 1 = n + 1 + m.length := by omega
      rw [this]
    | some s' =>
      rw [ho] at h
      unfold stp at h ⊢
      simp only at h ⊢
      split at h
      · rename_i hg
        rw [if_pos hg]
        injection h with h; injection h with h1 h2
        rw [← h2, List.length_append]
        have : r.length + m.length + 1 = n + 1 + m.length := by omega
        rw [this]
      · rename_i hg
        rw [if_neg hg]
        exact acc_more r s' t n k m h
/-- The words ahead of it can go on. -/
theorem acc_ahead : ∀ (a : List Tk) (s : PS) (b t : Tk) (r : List Tk) (k : Int), acc s b (a ++ t :: r) = some (r.length + 1, k) → acc s b a = none ∨ acc s b a = some (0, 1)
  | [], s, b, t, r, k, h => by
    rw [acc_nil]
    split
    · exact Or.inl rfl
    · exact Or.inr rfl
  | u :: a, s, b, t, r, k, h => by
    rw [List.cons_append, acc_cons] at h
    rw [acc_cons]
    cases ho : s.next u b with
    | none =>
      rw [ho, stp_none] at h
      injection h with h; injection h with h1 h2
      simp at h1; omega
    | some s' =>
      rw [ho] at h
      unfold stp at h ⊢
      simp only at h ⊢
      split at h
      · injection h with h; injection h with h1 h2
        simp at h1; omega
      · rename_i hg
        rw [if_neg hg]
        exact acc_ahead a s' u t r k h
theorem acc_le : ∀ (l : List Tk) (s : PS) (b : Tk) (x : Nat × Int), acc s b l = some x → x.1 ≤ l.length ∧ (x.1 = 0 → x.2 = 1) ∧ (x.2 = 1 ∨ x.2 = 5)
  | [], s, b, x, h => by
    rw [acc_nil] at h
    split at h
    · cases h
    · injection h with h; subst h; exact ⟨by simp, fun _ => rfl, Or.inl rfl⟩
  | t :: r, s, b, x, h => by
    rw [acc_cons] at h
    cases ho : s.next t b with
    | none =>
      rw [ho, stp_none] at h
      injection h with h; subst h; exact ⟨by simp, fun h => by simp at h, Or.inl rfl⟩
    | some s' =>
      rw [ho] at h
      unfold stp at h
      simp only at h
      split at h
      · injection h with h; subst h; exact ⟨by simp, fun h => by simp at h, Or.inr rfl⟩
      · obtain ⟨h1, h2⟩ := acc_le r s' t x h
        exact ⟨by simp; omega, h2⟩

/-- As soon as can be. -/
theorem parse_soon {ts more : List Tk} {i : Nat} {k : Int} (hl : (ts ++ more).length ≤ 300) (hs : AllS (ts ++ more)) (h : parseL ts = .error (i, k)) (hi : i < ts.length) (hk : k ≠ 4) :
    parseL (ts ++ more) = .error (i, k) ∧ ((∃ e, parseL (ts.take i) = .ok e) ∨ parseL (ts.take i) = .error (0, 4) ∨ parseL (ts.take i) = .error (i, 1)) := by
  have hs1 : AllS ts := fun t ht => hs t (List.mem_append_left _ ht)
  rw [List.length_append] at hl
  obtain ⟨n, ha, hn⟩ := error_parse (by omega) hs1 h hk
  obtain ⟨hle, _, _⟩ := acc_le _ _ _ _ ha
  simp only at hle
  cases n with
  | zero => omega
  | succ n =>
    constructor
    · have := acc_more ts ps0 bT n k more ha
      rw [parse_halt (by rw [List.length_append]; omega) hs this]
      have e : (ts ++ more).length - (n + 1 + more.length) = i := by rw [List.length_append]; omega
      rw [e]
    · have e1 : ts = ts.take i ++ ts.drop i := (List.take_append_drop i ts).symm
      have hd : ts.drop i ≠ [] := by
        intro h0
        have := congrArg List.length h0
        rw [List.length_drop] at this
        simp at this; omega
      cases hdr : ts.drop i with
      | nil => exact absurd hdr hd
      | cons t r =>
        have hr : r.length = n := by
          have := congrArg List.length hdr
          rw [List.length_drop, List.length_cons] at this
          omega
        rw [e1, hdr, ← hr] at ha
        have hs2 : AllS (ts.take i) := fun t ht => hs1 t (List.mem_of_mem_take ht)
        have hl2 : (ts.take i).length ≤ 300 := by rw [List.length_take]; omega
        rcases acc_ahead _ _ _ t r k ha with h0 | h0
        · obtain ⟨e, hd⟩ := der_acc hs2.kinds h0
          by_cases he : 200 < e.length
          · exact Or.inr (Or.inl (parse_full hl2 hs2 hd he))
          · exact Or.inl ⟨e, parse_ok hl2 hs2 hd (by omega)⟩
        · refine Or.inr (Or.inr ?_)
          rw [parse_halt hl2 hs2 h0]
          have : (ts.take i).length - 0 = i := by rw [List.length_take]; omega
          simp only [this]
end Go.Proofs.YtpbnjdgedifnoaaGreatDoor
namespace Go.Proofs.YtpbnjdgedifnoaaGreatDoor
set_option linter.unusedVariables false
set_option maxRecDepth 100000

def wL : List Tk := [mkT 2 [49] 0, mkT 5 [45] 2, mkT 2 [50] 4, mkT 5 [45] 6, mkT 2 [51] 8]
def wB : List Tk := [mkT 5 [40] 0, mkT 2 [53] 1, mkT 5 [41] 2]
def wS : List Tk := [mkT 2 [53] 0, mkT 5 [41] 2]
theorem read_wL : readL [49, 32, 45, 32, 50, 32, 45, 32, 51] = .ok wL := by
  unfold readL
  rw [if_neg (by decide), wds_word (by decide) (x := (2, [49], 1)) rfl (by decide)]
  simp only [List.nil_append, List.drop_zero, Nat.sub_self, Nat.zero_add]
  rw [wds_blank (by decide), wds_word (by decide) (x := (5, [45], 1)) rfl (by simp)]
  simp only [Nat.sub_self, List.drop_zero]
  rw [wds_blank (by decide), wds_word (by decide) (x := (2, [50], 1)) rfl (by simp)]
  simp only [Nat.sub_self, List.drop_zero]
  rw [wds_blank (by decide), wds_word (by decide) (x := (5, [45], 1)) rfl (by simp)]
  simp only [Nat.sub_self, List.drop_zero]
  rw [wds_blank (by decide), wds_word (by decide) (x := (2, [51], 1)) rfl (by simp)]
  simp only [Nat.sub_self, List.drop_zero]
  rw [wds_nil]
  rfl
theorem read_wB : readL [40, 53, 41] = .ok wB := by
  unfold readL
  rw [if_neg (by decide), wds_word (by decide) (x := (5, [40], 1)) rfl (by decide)]
  simp only [List.nil_append, List.drop_zero, Nat.sub_self, Nat.zero_add]
  rw [wds_word (by decide) (x := (2, [53], 1)) rfl (by simp)]
  simp only [Nat.sub_self, List.drop_zero]
  rw [wds_word (by decide) (x := (5, [41], 1)) rfl (by simp)]
  simp only [Nat.sub_self, List.drop_zero]
  rw [wds_nil]
  rfl
theorem read_wS : readL [53, 32, 41] = .ok wS := by
  unfold readL
  rw [if_neg (by decide), wds_word (by decide) (x := (2, [53], 1)) rfl (by decide)]
  simp only [List.nil_append, List.drop_zero, Nat.sub_self, Nat.zero_add]
  rw [wds_blank (by decide), wds_word (by decide) (x := (5, [41], 1)) rfl (by simp)]
  simp only [Nat.sub_self, List.drop_zero]
  rw [wds_nil]
  rfl
theorem parse_wL : parseL (wL.map at0) = .ok [opN 18, opN 18, ⟨2, 1, ⟨#[]⟩, ⟨#[]⟩⟩, ⟨2, 2, ⟨#[]⟩, ⟨#[]⟩⟩, ⟨2, 3, ⟨#[]⟩, ⟨#[]⟩⟩] := by kernel_rfl
theorem parse_wB : parseL (wB.map at0) = .ok [⟨2, 5, ⟨#[]⟩, ⟨#[]⟩⟩] := by kernel_rfl
theorem parse_wS : parseL (wS.map at0) = .error (1, 1) := by kernel_rfl
end Go.Proofs.YtpbnjdgedifnoaaGreatDoor
namespace Go.Proofs.YtpbnjdgedifnoaaGreatDoor
open Go.RowKit
set_option linter.unusedVariables false

def sameNd (a b : List Nd) : Bool := decide (lsC a b = 0)
theorem sameNd_iff (a b : List Nd) : sameNd a b = true ↔ a = b := by unfold sameNd; rw [decide_eq_true_iff, lsC_is.zero]
theorem sameNd_no {a b : List Nd} (h : a ≠ b) : sameNd a b = false := by
  cases e : sameNd a b with
  | false => rfl
  | true => exact absurd ((sameNd_iff a b).1 e) h

theorem ret_b {a b : Bool} (h : a = b) : Ending.returned (.bool a) = .returned (.bool b) := by rw [h]

theorem take_same {a b : List Nd} {k : Nat} (ha : k < a.length) (hb : k < b.length) (h : a.take k = b.take k) (e : a[k] = b[k]) : a.take (k + 1) = b.take (k + 1) := by
  rw [List.take_succ_eq_append_getElem ha, List.take_succ_eq_append_getElem hb, h, e]

set_option maxHeartbeats 4000000 in
theorem sameNodes_any (a b : List Nd) (p q : Option Addr) (c1 c2 : Nat) (w : World) (ha : NL w p a) (hb : NL w q b) (la : a.length ≤ maxLen) (lb : b.length ≤ maxLen) :
    Calls Tryz.prog 13 #[.slice p a.length c1, .slice q b.length c2] w fun e w' => e = .returned (.bool (sameNd a b)) ∧ ∃ n, w' = w.drewN n := by
  unfold maxLen at la lb
  by_cases hl : a.length = b.length
  · have i0 : ((a.length : Int) != (b.length : Int)) = false := by simp [hl]
    go_enter Tryz.func13, Tryz.ntmps13
    go_wp2
    go_loopw [5] (fun i wr => ∃ k n : Nat, k ≤ a.length ∧ i = .int .i64 k ∧ wr = w.drewN n ∧ Hid (a.take k = b.take k)) (fun i _ => a.length - (intOf i).toNat)
    case atStart => exact ⟨0, 0, Nat.zero_le _, rfl, rfl, rfl⟩
    case round =>
      obtain ⟨k, n, hk, rfl, rfl, HD⟩ := hrel
      by_cases hlt : k < a.length
      · have hlt2 : k < b.length := by omega
        obtain ⟨b1, o1, rfl, hb1, x0, x1, x2, x3, xw⟩ := ha.at hlt
        obtain ⟨b2, o2, rfl, hb2, y0, y1, y2, y3, yw⟩ := hb.at hlt2
        have i1 : (k : Int) < (a.length : Int) := by omega
        have i2 : (k : Int) < (b.length : Int) := by omega
        have HE : Hid (a[k] = b[k] → a.take (k + 1) = b.take (k + 1)) := take_same hlt hlt2 HD.out
        have HF : Hid (a[k] ≠ b[k] → a ≠ b) := fun h1 h2 => h1 (by subst h2; rfl)
        generalize a[k] = x at *
        generalize b[k] = y at *
        obtain ⟨xa, xb, xc, xd⟩ := x
        obtain ⟨ya, yb, yc, yd⟩ := y
        simp only at x0 x1 x2 x3 y0 y1 y2 y3
        by_cases h1 : xa = ya
        · subst h1
          by_cases h2 : xb = yb
          · subst h2
            by_cases h3 : xc = yc
            · subst h3
              by_cases h4 : xd = yd
              · subst h4
                have HE2 : Hid (a.take (k + 1) = b.take (k + 1)) := HE.out rfl
                clear HE HF
                go_wp2
                go_quiet (fail)
                go_wp2
                go_roundw
                case rel => exact ⟨k + 1, _, by omega, by go_num, rfl, HE2⟩
                case measure => simp [intOf]; omega
              · have h4' : ¬ xd.toList = yd.toList := fun h => h4 (bytes_inj (by simpa only [ByteArray.toList_eq] using h))
                go_wp2
                go_quiet (fail)
                go_wp2
                go_ret
                exact ⟨ret_b (sameNd_no (HF.out (fun h => h4 (by injection h)))).symm, _, by rw [World.drewN_drewN]⟩
            · have h3' : ¬ xc.toList = yc.toList := fun h => h3 (bytes_inj (by simpa only [ByteArray.toList_eq] using h))
              go_wp2
              go_quiet (fail)
              go_wp2
              go_ret
              exact ⟨ret_b (sameNd_no (HF.out (fun h => h3 (by injection h)))).symm, _, by rw [World.drewN_drewN]⟩
          · go_wp2
            go_quiet (fail)
            go_wp2
            go_ret
            exact ⟨ret_b (sameNd_no (HF.out (fun h => h2 (by injection h)))).symm, _, by rw [World.drewN_drewN]⟩
        · go_wp2
          go_quiet (fail)
          go_wp2
          go_ret
          exact ⟨ret_b (sameNd_no (HF.out (fun h => h1 (by injection h)))).symm, _, by rw [World.drewN_drewN]⟩
      · have i1 : ¬ (k : Int) < (a.length : Int) := by omega
        have HS : Hid (sameNd a b = true) := by
          show _ = _
          rw [sameNd_iff]
          have := HD.out
          rw [List.take_of_length_le (by omega), List.take_of_length_le (by omega)] at this
          exact this
        go_wp2
        go_ret
        exact ⟨ret_b HS.out.symm, _, rfl⟩
  · have i0 : ((a.length : Int) != (b.length : Int)) = true := by simp; omega
    go_enter Tryz.func13, Tryz.ntmps13
    go_wp2
    go_ret
    exact ⟨ret_b (sameNd_no (fun h => hl (by rw [h]))).symm, 0, rfl⟩
end Go.Proofs.YtpbnjdgedifnoaaGreatDoor
namespace Go.Proofs.YtpbnjdgedifnoaaGreatDoor
open Go.RowKit
set_option linter.unusedVariables false

/-- Lists of nodes lie behind an address, one behind the other. -/
def LL (w : World) (p : Option Addr) (vs : List (List Nd)) : Prop :=
  vs = [] ∨ ∃ b off, p = some ⟨b, off, none⟩ ∧ b < w.heap.size ∧ ∀ i v, vs[i]? = some v → ∃ q c, w.cell? ⟨b, off + i, none⟩ = some (.slice q v.length c) ∧ NL w q v ∧ v.length ≤ c ∧ c ≤ maxLen

theorem LL.up {w w' : World} {p : Option Addr} {vs : List (List Nd)} (h : LL w p vs) (k : Below w.heap.size w w') : LL w' p vs := by
  rcases h with h | ⟨b, off, h1, h2, h3⟩
  · exact .inl h
  · refine .inr ⟨b, off, h1, Nat.lt_of_lt_of_le h2 k.size, fun i v hv => ?_⟩
    obtain ⟨q, c, h4, h5, h6⟩ := h3 i v hv
    exact ⟨q, c, (k.cell (p := ⟨b, off + i, none⟩) h2).trans h4, h5.up k, h6⟩

theorem LL.at {w : World} {p : Option Addr} {vs : List (List Nd)} (h : LL w p vs) {i : Nat} (hi : i < vs.length) : ∃ b off q c, p = some ⟨b, off, none⟩ ∧ b < w.heap.size ∧
    w.cell? ⟨b, off + i, none⟩ = some (.slice q vs[i].length c) ∧ NL w q vs[i] ∧ vs[i].length ≤ c ∧ c ≤ maxLen := by
  rcases h with rfl | ⟨b, off, h1, h2, h3⟩
  · simp at hi
  · obtain ⟨q, c, h4, h5⟩ := h3 i _ (List.getElem?_eq_getElem hi)
    exact ⟨b, off, q, c, h1, h2, h4, h5⟩

def ffault : List (List Nd) → Int
  | [] => 0
  | v :: vs => if vfault v = 0 then ffault vs else vfault v
theorem ffault_step (vs : List (List Nd)) (k : Nat) (hk : k < vs.length) : ffault (vs.drop k) = if vfault vs[k] = 0 then ffault (vs.drop (k + 1)) else vfault vs[k] := by
  rw [List.drop_eq_getElem_cons hk]; rfl
theorem ffault_zero : ∀ (vs : List (List Nd)), ffault vs = 0 ↔ ∀ v ∈ vs, vfault v = 0
  | [] => by simp [ffault]
  | v :: vs => by
    unfold ffault
    by_cases h : vfault v = 0
    · rw [if_pos h, ffault_zero vs]; simp [h]
    · rw [if_neg h]; simp [h]
end Go.Proofs.YtpbnjdgedifnoaaGreatDoor
namespace Go.Proofs.YtpbnjdgedifnoaaGreatDoor
open Go.RowKit
set_option linter.unusedVariables false

theorem Tryz.infoList : (Tryz.prog.info? 23).map (fun i => (i.zero, i.size, i.bytes)) = some (some (.slice none 0 0), 1, 24) := by kernel_rfl

/-- Lists of nodes in a row of the call's own. -/
def OL (w : World) (base : Nat) (v : Value) (vs : List (List Nd)) : Prop :=
  ∃ xs, Row1 w base 23 v xs ∧ xs.length = vs.length ∧ ∀ (i : Nat) u L, xs[i]? = some u → vs[i]? = some L → ∃ q c, u = .slice q L.length c ∧ NT w base q L ∧ L.length ≤ c ∧ c ≤ maxLen
theorem OL.nil (w : World) (base : Nat) : OL w base (.slice none 0 0) [] := ⟨[], Row1.nil _ _ _, rfl, fun i u L h => by simp at h⟩
theorem OL.kept {w w' : World} {base : Nat} {e : TypeId} {v : Value} {vs : List (List Nd)} (h : OL w base v vs) (k : Kept base e w w') (h1 : 23 ≠ e) (h2 : 30 ≠ e) : OL w' base v vs := by
  obtain ⟨xs, hr, hl, he⟩ := h
  exact ⟨xs, hr.kept k h1, hl, fun i u L hu hL => by
    obtain ⟨q, c, e1, e2, e3⟩ := he i u L hu hL
    exact ⟨q, c, e1, e2.kept k h2, e3⟩⟩
theorem OL.below {w w' : World} {base : Nat} {v : Value} {vs : List (List Nd)} (h : OL w base v vs) (k : Below w.heap.size w w') (hb : base ≤ w.heap.size) : OL w' base v vs :=
  h.kept (e := 272) (Kept.of_below k hb) (by decide) (by decide)
theorem OL.lists {w : World} {base : Nat} {v : Value} {vs : List (List Nd)} (h : OL w base v vs) : ∃ q c, v = .slice q vs.length c ∧ LL w q vs ∧ vs.length ≤ c ∧ c ≤ maxLen := by
  obtain ⟨xs, hr, hl, he⟩ := h
  obtain ⟨q, c, rfl, h1, h2, h3⟩ := hr.slice
  refine ⟨q, c, by rw [hl], ?_, by omega, h2⟩
  rcases h3 with rfl | ⟨g, rfl, ht, _, hc⟩
  · exact .inl (List.eq_nil_of_length_eq_zero (by rw [← hl]; rfl))
  · refine .inr ⟨g, 0, rfl, ht.lt, fun i L hL => ?_⟩
    have hi : i < xs.length := by rw [hl]; exact (List.getElem?_eq_some_iff.1 hL).1
    obtain ⟨q', c', e1, e2, e3⟩ := he i xs[i] L (List.getElem?_eq_getElem hi) hL
    refine ⟨q', c', ?_, e2.1, e3⟩
    rw [Nat.zero_add, ← e1]
    exact hc i _ (List.getElem?_eq_getElem hi)

theorem append_list (w : World) {ops : Array Oper} {rest : List Oper} {o : Oper} {a : Act} {Q : Exit → Act → World → Prop} (hgd : o.guard = none) (s x : Operand)
    (ho : o.op = .call { callee := .builtin .append, args := #[s, x], argTypes := #[145, 145] })
    (base : Nat) (v : Value) (vs : List (List Nd)) (hs : a.eval s = v) (hown : OL w base v vs) (L : List Nd) (q : Option Addr) (c : Nat) (hN : NT w base q L) (hlc : L.length ≤ c) (hcm : c ≤ maxLen)
    (hx : a.eval x = .slice (some ⟨w.heap.size, 0, none⟩) 1 1) (hlen : vs.length + 1 ≤ 1099511627776) (hbase : base ≤ w.heap.size)
    (h : ∀ v' w', OL w' base v' (vs ++ [L]) → Kept base 23 w w' → wpList Tryz.prog ops Q rest (a.put o.dst v') w') : wpList Tryz.prog ops Q (o :: rest) a (w.alloc (.cells #[.slice q L.length c] 23)) := by
  obtain ⟨xs, hr, hl, he⟩ := hown
  refine append_cell w hgd s x 145 23 ho Tryz.underlying145 (.slice none 0 0) 24 Tryz.infoList rfl base v xs hs hr (.slice q L.length c) rfl hx (by unfold maxLen; omega) (by omega) hbase ?_
  intro v' w' h1 k
  refine h v' w' ⟨xs ++ [.slice q L.length c], h1, by simp [hl], fun i u L' hu hL' => ?_⟩ k
  by_cases hi : i < xs.length
  · rw [List.getElem?_append_left hi] at hu
    rw [List.getElem?_append_left (by omega)] at hL'
    obtain ⟨q', c', e1, e2, e3⟩ := he i u L' hu hL'
    exact ⟨q', c', e1, e2.kept k (by decide), e3⟩
  · have hi2 : i = xs.length := by
      have := (List.getElem?_eq_some_iff.1 hu).1
      simp at this; omega
    subst hi2
    rw [List.getElem?_append_right (Nat.le_refl _)] at hu
    rw [List.getElem?_append_right (by omega), hl] at hL'
    simp at hu hL'
    subst hu hL'
    exact ⟨q, c, rfl, hN.kept k (by decide), hlc, hcm⟩
end Go.Proofs.YtpbnjdgedifnoaaGreatDoor
namespace Go.Proofs.YtpbnjdgedifnoaaGreatDoor
set_option linter.unusedVariables false

/-- What a word stands for by itself. -/
def its (t : Tk) : List UInt8 := if t.kind = 1 ∨ t.kind = 5 then t.l else []
/-- The next word; behind the last one there is one of no kind. -/
def hdT (l : List Tk) : Tk := match l with | [] => bT | t :: _ => t
def sayB (l : List Tk) (s : List UInt8) : Bool := decide (its (hdT l) = s)
def nextN (l : List Tk) (s : List UInt8) : Bool := match l with | [] => false | t :: _ => nam t s

theorem spB_word {t : Tk} (h : spB t = true) (h3 : t.kind ≠ 3) (h4 : t.kind ≠ 4) : word1 t.l = .ok (t.kind, t.l, t.l.length) := by
  unfold spB at h
  rw [if_neg h3, if_neg h4] at h
  cases hl : t.s.data.toList with
  | nil => rw [hl] at h; cases h
  | cons c r =>
    rw [hl] at h
    simp only [Bool.and_eq_true] at h
    have h2 := h.2
    have el : t.l = c :: r := hl
    rw [el]
    unfold whole at h2
    cases hw : word1 (c :: r) with
    | error n => rw [hw] at h2; cases h2
    | ok x =>
      rw [hw] at h2
      simp only [Bool.and_eq_true, beq_iff_eq] at h2
      obtain ⟨a, b, d⟩ := x
      simp only at h2
      rw [h2.1.1, h2.1.2, h2.2]
theorem spB_one {t : Tk} (h : spB t = true) (h1 : t.kind = 1) : nfault t.l = 0 := by
  have hw := spB_word h (by rw [h1]; decide) (by rw [h1]; decide)
  rcases word1_inv hw with ⟨_, _, h, _⟩ | ⟨k, _⟩ | ⟨k, _⟩ | ⟨k, _⟩ | ⟨k, _⟩
  · exact h
  all_goals rw [h1] at k; cases k
theorem spB_two {t : Tk} (h : spB t = true) (h1 : t.kind = 2) : t.l.all digb = true ∧ t.l.length ≤ 19 ∧ t.l ≠ [] := by
  have hw := spB_word h (by rw [h1]; decide) (by rw [h1]; decide)
  rcases word1_inv hw with ⟨k, _⟩ | ⟨_, e, h2, h3, h4⟩ | ⟨k, _⟩ | ⟨k, _⟩ | ⟨k, _⟩
  · rw [h1] at k; cases k
  · have ha : t.l.takeWhile digb = t.l := by
      have := List.takeWhile_prefix (p := digb) (l := t.l)
      exact this.eq_of_length h3.symm
    refine ⟨?_, h2, ?_⟩
    · rw [← ha]; exact List.all_takeWhile
    · rw [← ha]; exact h4
  all_goals rw [h1] at k; cases k
theorem spB_five {t : Tk} (h : spB t = true) (h1 : t.kind = 5) : two t.l = true ∨ (∃ c, t.l = [c] ∧ shorts.contains c = true) := by
  have hw := spB_word h (by rw [h1]; decide) (by rw [h1]; decide)
  rcases word1_inv hw with ⟨k, _⟩ | ⟨k, _⟩ | ⟨k, _⟩ | ⟨k, _⟩ | ⟨_, ⟨h2, _⟩ | ⟨h2, e, h3, h4⟩⟩
  · rw [h1] at k; cases k
  · rw [h1] at k; cases k
  · rw [h1] at k; cases k
  · rw [h1] at k; cases k
  · exact Or.inl h2
  · right
    match hl : t.l, h3, h2 with
    | [], h3, _ => simp at h3
    | [c], _, h2 => exact ⟨c, rfl, by simpa using h2⟩
    | _ :: _ :: _, h3, _ => simp at h3
theorem spB_size {t : Tk} (h : spB t = true) : t.l.length ≤ 60 := by
  by_cases h3 : t.kind = 3
  · unfold spB at h
    rw [if_pos h3] at h
    unfold textOk at h
    simp at h
    show t.s.data.toList.length ≤ 60
    simp; omega
  · by_cases h4 : t.kind = 4
    · unfold spB at h
      rw [if_neg h3, if_pos h4] at h
      have hn : nfault t.s.data.toList = 0 := by simpa using h
      have := (name_low (l := t.l) hn).1
      omega
    · have hw := spB_word h h3 h4
      rcases word1_inv hw with ⟨_, _, h, _⟩ | ⟨_, _, h, _⟩ | ⟨k, _⟩ | ⟨k, _⟩ | ⟨_, ⟨h2, _⟩ | ⟨h2, e, h3, h4⟩⟩
      · have := (name_low h).1; omega
      · omega
      · exact absurd k h3
      · exact absurd k h4
      · unfold two at h2
        simp at h2
        rcases h2 with (((h2 | h2) | h2) | h2) | h2 <;> rw [h2] <;> decide
      · omega
theorem name_head {l : List UInt8} (h : nfault l = 0) : ∃ c r, l = c :: r ∧ letb c = true := by
  unfold nfault at h
  split at h
  · rename_i hn
    unfold nm at hn
    rw [Bool.and_eq_true] at hn
    cases l with
    | nil => simp at hn
    | cons c r =>
      refine ⟨c, r, rfl, ?_⟩
      have := hn.1
      simp only [pre, Bool.and_eq_true] at this
      exact this.1
  · cases h
theorem sign_head {t : Tk} (h : spB t = true) (h1 : t.kind = 5) : ∃ c r, t.l = c :: r ∧ letb c = false := by
  rcases spB_five h h1 with h2 | ⟨c, e, hc⟩
  · unfold two at h2
    simp at h2
    rcases h2 with (((h2 | h2) | h2) | h2) | h2 <;> rw [h2] <;> exact ⟨_, _, rfl, by decide⟩
  · refine ⟨c, [], e, ?_⟩
    unfold shorts at hc
    simp at hc
    rcases hc with rfl | rfl | rfl | rfl | rfl | rfl | rfl | rfl | rfl | rfl | rfl | rfl | rfl | rfl <;> decide
/-- A name that is said. -/
theorem sayB_nam {l : List Tk} {c : UInt8} {w : List UInt8} (hl : AllS l) (hc : letb c = true) : sayB l (c :: w) = nextN l (c :: w) := by
  unfold sayB nextN
  cases l with
  | nil => rfl
  | cons t r =>
    have ht := hl t (List.mem_cons_self ..)
    show decide (its t = c :: w) = nam t (c :: w)
    unfold its nam
    by_cases h1 : t.kind = 1
    · rw [if_pos (Or.inl h1), h1]
      rw [Bool.eq_iff_iff]; simp
    · by_cases h5 : t.kind = 5
      · obtain ⟨d, r', e, hd⟩ := sign_head ht h5
        rw [if_pos (Or.inr h5), e, h5]
        rw [Bool.eq_iff_iff]; simp
        intro e1; rw [e1, hc] at hd; cases hd
      · rw [if_neg (by rintro (h | h) <;> contradiction)]
        rw [Bool.eq_iff_iff]; simp [h1]
/-- A sign that is said. -/
theorem sayB_sgn {l : List Tk} {c : UInt8} {w : List UInt8} (hl : AllS l) (hc : letb c = false) : sayB l (c :: w) = nextS l (c :: w) := by
  unfold sayB nextS
  cases l with
  | nil => rfl
  | cons t r =>
    have ht := hl t (List.mem_cons_self ..)
    show decide (its t = c :: w) = sgn t (c :: w)
    unfold its sgn
    by_cases h1 : t.kind = 1
    · obtain ⟨d, r', e, hd⟩ := name_head (spB_one ht h1)
      rw [if_pos (Or.inl h1), e, h1]
      rw [Bool.eq_iff_iff]; simp
      intro e1; rw [e1, hc] at hd; cases hd
    · by_cases h5 : t.kind = 5
      · rw [if_pos (Or.inr h5), h5]
        rw [Bool.eq_iff_iff]; simp
      · rw [if_neg (by rintro (h | h) <;> contradiction)]
        rw [Bool.eq_iff_iff]; simp [h5]

/-- A form has no more nodes than words. -/
theorem der_len {l : Nat} {a : List Tk} {x : List Nd} (h : Der l a x) : (l ≤ 8 → x.length ≤ a.length) ∧ (9 ≤ l → x.length ≤ a.length + 1) := by
  induction h with
  | up l a x hl hd ih =>
    refine ⟨fun _ => ih.1 (by omega), fun h => by omega⟩
  | bin l t a b x y hl _ _ _ iha ihb =>
    have hl' : l ≤ 5 := by unfold lftL at hl; omega
    refine ⟨fun _ => ?_, fun h => by omega⟩
    have := iha.1 (by omega); have := ihb.1 (by omega)
    simp; omega
  | _ => simp_all <;> omega
theorem der_some {l : Nat} {a : List Tk} {x : List Nd} (h : Der l a x) (hl : l ≤ 8) : x ≠ [] := by
  have : x ≠ [] := by
    clear hl
    induction h <;> simp_all
  exact this
/-- What is read is the beginning of the words, and has no more nodes. -/
theorem pE_len {n lvl : Nat} {l r : List Tk} {e : List Nd} (hk : AllK l) (hl : lvl ≤ 8) (h : pE n lvl l = some (.ok (e, r))) : e.length + r.length ≤ l.length ∧ e ≠ [] ∧ ∃ a, l = a ++ r := by
  obtain ⟨a, h1, h2⟩ := (snd_all n).E lvl l hl hk e r h
  have := (der_len h2).1 hl
  refine ⟨by rw [h1, List.length_append]; omega, ?_, a, h1⟩
  exact der_some h2 hl

abbrev PRes := Except (Nat × Int) (List Nd × List Tk)
theorem andR_some {X : Option PRes} {f : List Nd → List Tk → Option PRes} {res : PRes} (h : andR X f = some res) : (∃ e, X = some (.error e) ∧ res = .error e) ∨ ∃ a r, X = some (.ok (a, r)) ∧ f a r = some res := by
  unfold andR at h
  match X, h with
  | none, h => cases h
  | some (.error e), h => injection h with h; exact Or.inl ⟨e, rfl, h.symm⟩
  | some (.ok (a, r)), h => exact Or.inr ⟨a, r, rfl, h⟩
theorem must_some {p : Tk → Bool} {l : List Tk} {f : Tk → List Tk → Option PRes} {res : PRes} (h : must p l f = some res) :
    ((∀ t r, l = t :: r → p t = false) ∧ res = .error (l.length, 1)) ∨ ∃ t r, l = t :: r ∧ p t = true ∧ f t r = some res := by
  unfold must at h
  cases l with
  | nil => injection h with h; exact Or.inl ⟨fun _ _ h => (by cases h), h.symm⟩
  | cons t r =>
    simp only at h
    by_cases hp : p t = true
    · rw [if_pos hp] at h; exact Or.inr ⟨t, r, rfl, hp, h⟩
    · rw [if_neg hp] at h
      injection h with h
      refine Or.inl ⟨fun u r' e => ?_, h.symm⟩
      injection e with e1 _
      subst e1; simpa using hp

theorem pE_zero_if {n : Nat} {t : Tk} {r : List Tk} (c : (nam t wIf && !nextS r [58, 58]) = true) : pE (n + 1) 0 (t :: r) = andR (pE n 0 r) fun a r1 => must (fun u => nam u wThen) r1 fun _ r2 => andR (pE n 0 r2) fun b r3 => must (fun u => nam u wElse) r3 fun _ r4 =>
    andR (pE n 0 r4) fun c r5 => some (.ok (opN 13 :: (a ++ (b ++ c)), r5)) := by
  rw [pE.eq_def]; simp only [if_true, c]
theorem pE_zero_up {n : Nat} {l : List Tk} (c : (nextN l wIf && !nextS l.tail [58, 58]) = false) : pE (n + 1) 0 l = pE n 1 l := by
  cases l with
  | nil => rw [pE.eq_def]; rfl
  | cons t r =>
    have c' : ¬ (nam t wIf && !nextS r [58, 58]) = true := by
      have : (nam t wIf && !nextS r [58, 58]) = false := c
      rw [this]; decide
    rw [pE.eq_def]; simp only [if_true, if_neg c']
theorem pE_left {n lvl : Nat} {l : List Tk} (hl : lftL lvl) : pE (n + 1) lvl l = andR (pE n (lvl + 1) l) fun a r => pL n lvl a r := by
  rw [pE.eq_def]
  rcases hl with hl | hl | hl | hl <;> subst hl <;> rfl
theorem pL_go {n lvl : Nat} {a : List Nd} {t : Tk} {r : List Tk} {res : PRes} (hl : lvlS lvl t = true) (h : pL n lvl a (t :: r) = some res) :
    (∃ e, pE n (lvl + 1) r = some (.error e) ∧ res = .error e) ∨ ∃ b r1, pE n (lvl + 1) r = some (.ok (b, r1)) ∧ pL n lvl (opN (opOf t) :: (a ++ b)) r1 = some res := by
  cases n with
  | zero => rw [pL] at h; cases h
  | succ n =>
    rw [pL.eq_def] at h
    simp only [hl, if_true] at h
    rcases andR_some h with ⟨e, h1, h2⟩ | ⟨b, r1, h1, h2⟩
    · exact Or.inl ⟨e, (mono_all n (n + 1) (by omega)).E _ _ _ h1, h2⟩
    · exact Or.inr ⟨b, r1, (mono_all n (n + 1) (by omega)).E _ _ _ h1, (mono_all n (n + 1) (by omega)).L _ _ _ _ h2⟩
theorem pL_stop {n lvl : Nat} {a : List Nd} {l : List Tk} {res : PRes} (hl : ∀ t r, l = t :: r → lvlS lvl t = false) (h : pL n lvl a l = some res) : res = .ok (a, l) := by
  cases n with
  | zero => rw [pL] at h; cases h
  | succ n =>
    rw [pL.eq_def] at h
    cases l with
    | nil => injection h with h; exact h.symm
    | cons t r =>
      simp only [hl t r rfl, Bool.false_eq_true, if_false] at h
      injection h with h; exact h.symm
theorem pE_three {n : Nat} {l : List Tk} : pE (n + 1) 3 l = andR (pE n 4 l) fun a r =>
        match r with
        | [] => some (.ok (a, []))
        | t :: r1 =>
          if relS t = true then andR (pE n 4 r1) fun b r2 => some (.ok (opN (opOf t) :: (a ++ b), r2))
          else if hasS t = true then must (fun u => u.kind == 1) r1 fun u r2 => some (.ok (mkN (if nam t wHas = true then 21 else 24) 0 u.l [] :: a, r2))
          else if nam t wLike = true then must (fun u => u.kind == 3) r1 fun u r2 => some (.ok (mkN 23 0 u.l [] :: a, r2))
          else some (.ok (a, t :: r1)) := by rw [pE.eq_def]; rfl
theorem pE_not {n : Nat} {t : Tk} {r : List Tk} (c1 : sgn t [33] = true) : pE (n + 1) 6 (t :: r) = andR (pE n 6 r) fun a r1 => some (.ok (opN 9 :: a, r1)) := by
  rw [pE.eq_def]; simp [c1]
theorem pE_neg {n : Nat} {t : Tk} {r : List Tk} (c1 : sgn t [33] = false) (c2 : (sgn t [45] && !nextNum r) = true) : pE (n + 1) 6 (t :: r) = andR (pE n 6 r) fun a r1 => some (.ok (opN 10 :: a, r1)) := by
  rw [pE.eq_def]; simp [c1, c2]
theorem pE_six_up {n : Nat} {l : List Tk} (c1 : nextS l [33] = false) (c2 : (nextS l [45] && !nextNum l.tail) = false) : pE (n + 1) 6 l = pE n 7 l := by
  cases l with
  | nil => rw [pE.eq_def]; rfl
  | cons t r =>
    have c1' : sgn t [33] = false := c1
    have c2' : (sgn t [45] && !nextNum r) = false := c2
    rw [pE.eq_def]; simp only [c1', c2', Bool.false_eq_true, if_false]; rfl
theorem pE_seven {n : Nat} {l : List Tk} : pE (n + 1) 7 l = andR (pE n 8 l) fun a r => pP n a r := by rw [pE.eq_def]; rfl
theorem pP_stop {n : Nat} {a : List Nd} {l : List Tk} {res : PRes} (hl : nextS l [46] = false) (h : pP n a l = some res) : res = .ok (a, l) := by
  cases n with
  | zero => rw [pP] at h; cases h
  | succ n =>
    rw [pP.eq_def] at h
    cases l with
    | nil => injection h with h; exact h.symm
    | cons t r =>
      have hl' : sgn t [46] = false := hl
      simp only [hl', Bool.false_eq_true, if_false] at h
      injection h with h; exact h.symm
theorem pP_bad {n : Nat} {a : List Nd} {t : Tk} {r : List Tk} {res : PRes} (ht : sgn t [46] = true) (hr : ∀ u r1, r = u :: r1 → (u.kind == 1) = false) (h : pP n a (t :: r) = some res) : res = .error (r.length, 1) := by
  cases n with
  | zero => rw [pP] at h; cases h
  | succ n =>
    rw [pP.eq_def] at h
    simp only [ht, if_true] at h
    rcases must_some h with ⟨_, h1⟩ | ⟨u, r1, e, hu, _⟩
    · exact h1
    · rw [hr u r1 e] at hu; cases hu
theorem pP_get {n : Nat} {a : List Nd} {t u : Tk} {r : List Tk} {res : PRes} (ht : sgn t [46] = true) (hu : (u.kind == 1) = true) (hc : (isCall u && nextS r [40]) = false) (h : pP n a (t :: u :: r) = some res) :
    pP n (mkN 22 0 u.l [] :: a) r = some res := by
  cases n with
  | zero => rw [pP] at h; cases h
  | succ n =>
    rw [pP.eq_def] at h
    simp only [ht, if_true] at h
    rcases must_some h with ⟨h1, _⟩ | ⟨u', r1, e, _, h1⟩
    · rw [h1 u r rfl] at hu; cases hu
    · injection e with e1 e2
      subst e1 e2
      rw [hc, if_neg (by decide)] at h1
      exact (mono_all n (n + 1) (by omega)).P _ _ _ h1
theorem pP_call {n : Nat} {a : List Nd} {t u v : Tk} {r : List Tk} {res : PRes} (ht : sgn t [46] = true) (hu : (u.kind == 1) = true) (hc : isCall u = true) (hv : sgn v [40] = true) (h : pP n a (t :: u :: v :: r) = some res) :
    (∃ e, pE n 0 r = some (.error e) ∧ res = .error e) ∨ ∃ b r2, pE n 0 r = some (.ok (b, r2)) ∧
      (((∀ x r', r2 = x :: r' → sgn x [41] = false) ∧ res = .error (r2.length, 1)) ∨ ∃ x r3, r2 = x :: r3 ∧ sgn x [41] = true ∧ pP n (opN (callOp u) :: (a ++ b)) r3 = some res) := by
  cases n with
  | zero => rw [pP] at h; cases h
  | succ n =>
    rw [pP.eq_def] at h
    simp only [ht, if_true] at h
    rcases must_some h with ⟨h1, _⟩ | ⟨u', r1, e, _, h1⟩
    · rw [h1 u (v :: r) rfl] at hu; cases hu
    · injection e with e1 e2
      subst e1 e2
      rw [hc, show nextS (v :: r) [40] = true from hv, if_pos (by decide)] at h1
      rcases andR_some h1 with ⟨e, h2, h3⟩ | ⟨b, r2, h2, h3⟩
      · exact Or.inl ⟨e, (mono_all n (n + 1) (by omega)).E _ _ _ h2, h3⟩
      · refine Or.inr ⟨b, r2, (mono_all n (n + 1) (by omega)).E _ _ _ h2, ?_⟩
        rcases must_some h3 with ⟨h4, h5⟩ | ⟨x, r3, h4, h5, h6⟩
        · exact Or.inl ⟨h4, h5⟩
        · exact Or.inr ⟨x, r3, h4, h5, (mono_all n (n + 1) (by omega)).P _ _ _ h6⟩
theorem pS_go {n k : Nat} {acc : List Nd} {l : List Tk} {res : PRes} (h : pS n k acc l = some res) :
    (∃ e, pE n 0 l = some (.error e) ∧ res = .error e) ∨ ∃ b r, pE n 0 l = some (.ok (b, r)) ∧
      ((nextS r [93] = true ∧ res = .ok (mkN 5 ((k : Int) + 1) [] [] :: (acc ++ b), r.tail)) ∨ (nextS r [93] = false ∧ nextS r [44] = true ∧ pS n (k + 1) (acc ++ b) r.tail = some res) ∨ (nextS r [93] = false ∧ nextS r [44] = false ∧ res = .error (r.length, 1))) := by
  cases n with
  | zero => rw [pS] at h; cases h
  | succ n =>
    rw [pS.eq_def] at h
    simp only at h
    rcases andR_some h with ⟨e, h2, h3⟩ | ⟨b, r, h2, h3⟩
    · exact Or.inl ⟨e, (mono_all n (n + 1) (by omega)).E _ _ _ h2, h3⟩
    · refine Or.inr ⟨b, r, (mono_all n (n + 1) (by omega)).E _ _ _ h2, ?_⟩
      cases r with
      | nil => injection h3 with h3; exact Or.inr (Or.inr ⟨rfl, rfl, h3.symm⟩)
      | cons t r1 =>
        simp only at h3
        by_cases c1 : sgn t [93] = true
        · rw [if_pos c1] at h3; injection h3 with h3; exact Or.inl ⟨c1, h3.symm⟩
        · rw [if_neg c1] at h3
          have c1' : nextS (t :: r1) [93] = false := by simpa [nextS] using c1
          by_cases c2 : sgn t [44] = true
          · rw [if_pos c2] at h3; exact Or.inr (Or.inl ⟨c1', c2, (mono_all n (n + 1) (by omega)).S _ _ _ _ h3⟩)
          · rw [if_neg c2] at h3; injection h3 with h3
            exact Or.inr (Or.inr ⟨c1', by simpa [nextS] using c2, h3.symm⟩)
/-- May a field begin here, behind this name? -/
def keyB (nm : List UInt8) (l : List Tk) : Bool := match l with | [] => false | u :: _ => u.kind == 1 && decide (Lib.compareBytes nm u.l < 0)
theorem pK_bad {n k : Nat} {nm : List UInt8} {acc : List Nd} {l : List Tk} {res : PRes} (hk : keyB nm l = false) (h : pK n k nm acc l = some res) : res = .error (l.length, 1) := by
  cases n with
  | zero => rw [pK] at h; cases h
  | succ n =>
    rw [pK.eq_def] at h
    simp only at h
    rcases must_some h with ⟨_, h1⟩ | ⟨u, r, e, hu, _⟩
    · exact h1
    · subst e
      have : (u.kind == 1 && decide (Lib.compareBytes nm u.l < 0)) = false := hk
      rw [this] at hu; cases hu
theorem pK_colon {n k : Nat} {nm : List UInt8} {acc : List Nd} {u : Tk} {l : List Tk} {res : PRes} (hk : keyB nm (u :: l) = true) (hc : nextS l [58] = false) (h : pK n k nm acc (u :: l) = some res) : res = .error (l.length, 1) := by
  cases n with
  | zero => rw [pK] at h; cases h
  | succ n =>
    rw [pK.eq_def] at h
    simp only at h
    rcases must_some h with ⟨h1, _⟩ | ⟨u', r, e, hu, h1⟩
    · have : (u.kind == 1 && decide (Lib.compareBytes nm u.l < 0)) = true := hk
      rw [h1 u l rfl] at this; cases this
    · injection e with e1 e2
      subst e1 e2
      rcases must_some h1 with ⟨_, h2⟩ | ⟨v, r, e, hv, _⟩
      · exact h2
      · subst e
        have : sgn v [58] = false := hc
        rw [this] at hv; cases hv
theorem pK_go {n k : Nat} {nm : List UInt8} {acc : List Nd} {u v : Tk} {l : List Tk} {res : PRes} (hk : keyB nm (u :: v :: l) = true) (hc : sgn v [58] = true) (h : pK n k nm acc (u :: v :: l) = some res) :
    (∃ e, pE n 0 l = some (.error e) ∧ res = .error e) ∨ ∃ b r, pE n 0 l = some (.ok (b, r)) ∧
      ((nextS r [125] = true ∧ res = .ok (mkN 6 ((k : Int) + 1) [] [] :: (acc ++ (mkN 7 0 u.l [] :: b)), r.tail)) ∨
       (nextS r [125] = false ∧ u.l ≠ wLast ∧ nextS r [44] = true ∧ pK n (k + 1) u.l (acc ++ (mkN 7 0 u.l [] :: b)) r.tail = some res) ∨
       (nextS r [125] = false ∧ (u.l = wLast ∨ nextS r [44] = false) ∧ res = .error (r.length, 1))) := by
  cases n with
  | zero => rw [pK] at h; cases h
  | succ n =>
    rw [pK.eq_def] at h
    simp only at h
    rcases must_some h with ⟨h1, _⟩ | ⟨u', r, e, hu, h1⟩
    · have : (u.kind == 1 && decide (Lib.compareBytes nm u.l < 0)) = true := hk
      rw [h1 u _ rfl] at this; cases this
    · injection e with e1 e2
      subst e1 e2
      rcases must_some h1 with ⟨h2, _⟩ | ⟨v', r, e, hv, h2⟩
      · rw [h2 v l rfl] at hc; cases hc
      · injection e with e1 e2
        subst e1 e2
        rcases andR_some h2 with ⟨e, h3, h4⟩ | ⟨b, r, h3, h4⟩
        · exact Or.inl ⟨e, (mono_all n (n + 1) (by omega)).E _ _ _ h3, h4⟩
        · refine Or.inr ⟨b, r, (mono_all n (n + 1) (by omega)).E _ _ _ h3, ?_⟩
          cases r with
          | nil => injection h4 with h4; exact Or.inr (Or.inr ⟨rfl, Or.inr rfl, h4.symm⟩)
          | cons t r1 =>
            simp only at h4
            by_cases c1 : sgn t [125] = true
            · rw [if_pos c1] at h4; injection h4 with h4; exact Or.inl ⟨c1, h4.symm⟩
            · rw [if_neg c1] at h4
              have c1' : nextS (t :: r1) [125] = false := by simpa [nextS] using c1
              by_cases c2 : comR u.l t = true
              · rw [if_pos c2] at h4
                have c3 := c2
                unfold comR at c3
                rw [Bool.and_eq_true] at c3
                exact Or.inr (Or.inl ⟨c1', by simpa using c3.2, c3.1, (mono_all n (n + 1) (by omega)).K _ _ _ _ _ h4⟩)
              · rw [if_neg c2] at h4; injection h4 with h4
                refine Or.inr (Or.inr ⟨c1', ?_, h4.symm⟩)
                by_cases c3 : u.l = wLast
                · exact Or.inl c3
                · right
                  have : comR u.l t = false := by simpa using c2
                  unfold comR at this
                  rw [show (u.l == wLast) = false from by simpa using c3] at this
                  simpa [nextS] using this
end Go.Proofs.YtpbnjdgedifnoaaGreatDoor
namespace Go.Proofs.YtpbnjdgedifnoaaGreatDoor
open Go.RowKit
set_option linter.unusedVariables false

/-- All that lay in w is in w' as it was, but for one block. -/
structure BX (B : Nat) (w w' : World) : Prop where
  os : w'.os = w.os
  tape : w'.tape = w.tape
  output : w'.output = w.output
  size : w.heap.size ≤ w'.heap.size
  block : ∀ k, k < w.heap.size → k ≠ B → w'.heap[k]? = w.heap[k]?
theorem BX.refl (B : Nat) (w : World) : BX B w w := ⟨rfl, rfl, rfl, Nat.le_refl _, fun _ _ _ => rfl⟩
theorem BX.trans {B : Nat} {a b c : World} (h : BX B a b) (k : BX B b c) : BX B a c :=
  ⟨k.os.trans h.os, k.tape.trans h.tape, k.output.trans h.output, Nat.le_trans h.size k.size, fun i hi hn => (k.block i (Nat.lt_of_lt_of_le hi h.size) hn).trans (h.block i hi hn)⟩
theorem BX.of_below {B : Nat} {w w' : World} (h : Below w.heap.size w w') : BX B w w' := ⟨h.os, h.tape, h.output, h.size, fun i hi _ => h.block i hi⟩
theorem BX.up {B : Nat} {a w w' : World} (h : BX B a w) (k : Below w.heap.size w w') : BX B a w' := h.trans (BX.of_below k)
theorem BX.set {B : Nat} {a w : World} (h : BX B a w) (i : Nat) (v : Value) : BX B a (w.setCell ⟨B, i, none⟩ v) :=
  h.trans ⟨rfl, rfl, rfl, by simp, fun k _ hn => Below.heap_setCell w ⟨B, i, none⟩ v k hn⟩
theorem BX.cell {B : Nat} {w w' : World} (h : BX B w w') {p : Addr} (hp : p.block < w.heap.size) (hn : p.block ≠ B) : w'.cell? p = w.cell? p := by
  unfold World.cell?; rw [h.block p.block hp hn]
/-- Below a mark that is not above the block nothing has changed. -/
theorem BX.below {B N : Nat} {w w' : World} (h : BX B w w') (hN : N ≤ B) (hB : B < w.heap.size) : Below N w w' :=
  ⟨h.os, h.tape, h.output, h.size, fun k hk => h.block k (by omega) (by omega)⟩

/-- What the variable of errors out of range holds. -/
def ErrIn (w : World) : Prop := ∃ ev, w.cell? ⟨8, 0, none⟩ = some ev ∧ (ev = .nilIface ∨ ∃ te pe, ev = .iface te pe)
/-- A reader of words, so far on. -/
structure RS (w : World) (B : Nat) (p : Option Addr) (c : Nat) (ts : List Tk) (k : Nat) : Prop where
  blk : w.heap[B]? = some (.cells #[.slice p ts.length c, .int .i64 (k : Int)] 76 (0, 0))
  tk : TKL w p ts
  ne : ts = [] ∨ ∀ a, p = some a → a.block ≠ B
  le : k ≤ ts.length
  len : ts.length ≤ 300
  all : AllS ts
  er : ErrIn w
  ge : 8 < B
theorem RS.lt {w : World} {B : Nat} {p : Option Addr} {c : Nat} {ts : List Tk} {k : Nat} (h : RS w B p c ts k) : B < w.heap.size := (Array.getElem?_eq_some_iff.1 h.blk).1
theorem RS.c0 {w : World} {B : Nat} {p : Option Addr} {c : Nat} {ts : List Tk} {k : Nat} (h : RS w B p c ts k) : w.cell? ⟨B, 0, none⟩ = some (.slice p ts.length c) := by
  simp [World.cell?, h.blk]
theorem RS.c1 {w : World} {B : Nat} {p : Option Addr} {c : Nat} {ts : List Tk} {k : Nat} (h : RS w B p c ts k) : w.cell? ⟨B, 1, none⟩ = some (.int .i64 (k : Int)) := by
  simp [World.cell?, h.blk]
theorem RS.fz {w : World} {B : Nat} {p : Option Addr} {c : Nat} {ts : List Tk} {k : Nat} (h : RS w B p c ts k) : w.frozen? ⟨B, 1, none⟩ = false := by
  simp [World.frozen?, h.blk]
theorem TKL.bx {B : Nat} {w w' : World} {p : Option Addr} {L : List Tk} (h : TKL w p L) (hn : L = [] ∨ ∀ a, p = some a → a.block ≠ B) (k : BX B w w') : TKL w' p L := by
  rcases hn with hn | hn
  · exact .inl hn
  rcases h with h | ⟨b, off, h1, h2, h3⟩
  · exact .inl h
  · refine .inr ⟨b, off, h1, Nat.lt_of_lt_of_le h2 k.size, fun i x hx => ?_⟩
    have q : ∀ o, w'.cell? ⟨b, o, none⟩ = w.cell? ⟨b, o, none⟩ := fun o => k.cell (p := ⟨b, o, none⟩) h2 (hn ⟨b, off, none⟩ h1)
    simp only [q]
    exact h3 i x hx
theorem ErrIn.bx {B : Nat} {w w' : World} (h : ErrIn w) (hB : 8 < B) (k : BX B w w') (hlt : B < w.heap.size) : ErrIn w' := by
  obtain ⟨ev, h1, h2⟩ := h
  exact ⟨ev, (k.cell (p := ⟨8, 0, none⟩) (by show 8 < _; omega) (by show 8 ≠ _; omega)).trans h1, h2⟩
/-- What is behind a world that keeps all but the reader, the reader further on. -/
theorem RS.next {w w' : World} {B : Nat} {p : Option Addr} {c : Nat} {ts : List Tk} {k k' : Nat} (h : RS w B p c ts k) (hx : BX B w w') (hk : k' ≤ ts.length)
    (hb : w'.heap[B]? = some (.cells #[.slice p ts.length c, .int .i64 (k' : Int)] 76 (0, 0))) : RS w' B p c ts k' :=
  ⟨hb, h.tk.bx h.ne hx, h.ne, hk, h.len, h.all, h.er.bx h.ge hx h.lt, h.ge⟩
theorem RS.up {w w' : World} {B : Nat} {p : Option Addr} {c : Nat} {ts : List Tk} {k : Nat} (h : RS w B p c ts k) (hb : Below w.heap.size w w') : RS w' B p c ts k :=
  h.next (BX.of_below hb) h.le ((hb.block B h.lt).trans h.blk)
theorem RS.set {w : World} {B : Nat} {p : Option Addr} {c : Nat} {ts : List Tk} {k k' : Nat} (h : RS w B p c ts k) (hk : k' ≤ ts.length) : RS (w.setCell ⟨B, 1, none⟩ (.int .i64 (k' : Int))) B p c ts k' :=
  h.next ((BX.refl B w).set 1 _) hk (heap_setCell_same w B 1 _ _ _ h.blk)
/-- Nodes in a block of nodes. -/
theorem NT.bx {w w' : World} {B : Nat} {p : Option Addr} {c : Nat} {ts : List Tk} {k : Nat} {q : Option Addr} {L : List Nd} (hr : RS w B p c ts k) (h : NT w 0 q L) (hx : BX B w w') : NT w' 0 q L := by
  obtain ⟨h1, h2⟩ := h
  rcases h2 with h2 | ⟨b, o, h2, h3⟩
  · exact ⟨.inl h2, .inl h2⟩
  · rcases h3 with h3 | h3
    · omega
    · have hne : b ≠ B := by
        intro e; subst e
        obtain ⟨cur, fr, hh⟩ := h3
        rw [hr.blk] at hh
        injection hh with hh
        injection hh with _ hh _
        exact absurd hh (by decide)
      have hlt := h3.lt
      refine ⟨?_, .inr ⟨b, o, h2, .inr ?_⟩⟩
      · rcases h1 with h1 | ⟨b', o', e, h4, h5⟩
        · exact .inl h1
        · rw [h2] at e; cases e
          refine .inr ⟨b, o, h2, Nat.lt_of_lt_of_le hlt hx.size, fun i x hi => ?_⟩
          have q : ∀ o, w'.cell? ⟨b, o, none⟩ = w.cell? ⟨b, o, none⟩ := fun o => hx.cell (p := ⟨b, o, none⟩) hlt hne
          simp only [q]
          exact h5 i x hi
      · obtain ⟨cur, fr, hh⟩ := h3
        exact ⟨cur, fr, (hx.block b hlt hne).trans hh⟩
/-- What is thrown. -/
def thrownP (n : Int) : List PanicEntry := [{ v := .iface 78 (.agg #[.iface 31 (.int .i64 n)]), recovered := false }]
/-- How a form is read: its nodes, in memory of their own, and the reader behind it; or a throw, and the reader where it is wrong. -/
def EndP (B : Nat) (p : Option Addr) (c : Nat) (ts : List Tk) (w : World) (res : PRes) (e : Ending) (w' : World) : Prop :=
  match res with
  | .ok x => (∃ q cc, e = .returned (.slice q x.1.length cc) ∧ NT w' 0 q x.1 ∧ x.1.length ≤ cc ∧ cc ≤ maxLen) ∧ RS w' B p c ts (ts.length - x.2.length) ∧ BX B w w'
  | .error y => e = .panicked (thrownP y.2) ∧ RS w' B p c ts (ts.length - y.1) ∧ BX B w w'
/-- A reader that has read so far sees these words. -/
theorem drop_cons {ts r : List Tk} {t : Tk} {k : Nat} (h : ts.drop k = t :: r) : ts.drop (k + 1) = r ∧ k < ts.length ∧ ts.length - r.length = k + 1 := by
  have hl := congrArg List.length h
  rw [List.length_drop, List.length_cons] at hl
  refine ⟨?_, by omega, by omega⟩
  have := congrArg List.tail h
  rwa [List.tail_drop, List.tail_cons] at this
theorem drop_suffix {ts a r : List Tk} {k : Nat} (h : ts.drop k = a ++ r) : ts.drop (ts.length - r.length) = r := by
  have hs : ts = (ts.take k ++ a) ++ r := by rw [List.append_assoc, ← h, List.take_append_drop]
  have hl := congrArg List.length hs
  rw [List.length_append] at hl
  have e : ts.length - r.length = (ts.take k ++ a).length := by omega
  rw [e]
  generalize ts.take k ++ a = m at *
  rw [hs]
  exact List.drop_left ..
end Go.Proofs.YtpbnjdgedifnoaaGreatDoor
namespace Go.Proofs.YtpbnjdgedifnoaaGreatDoor
open Go.RowKit
set_option linter.unusedVariables false

theorem below_draws' {B : Nat} {a w : World} (h : Below B a w) (n : Nat) : Below B a (w.drewN n) := ⟨h.os, h.tape, h.output, h.size, h.block⟩
theorem pneed_true (v : Value) (w : World) : Calls Tryz.prog 40 #[.bool true, v] w fun e w' => e = .returned (.tuple #[]) ∧ w' = w := by
  go_enter Tryz.func40, Tryz.ntmps40
  go_wp2
  go_end0
  exact ⟨rfl, rfl⟩
theorem pneed_false (n : Int) (w : World) : Calls Tryz.prog 40 #[.bool false, .iface 31 (.int .i64 n)] w fun e w' => e = .panicked (thrownP n) ∧ w' = w := by
  go_enter Tryz.func40, Tryz.ntmps40
  go_wp2
  exact ⟨rfl, rfl, rfl⟩
/-- A word as a value. -/
def tokV (t : Tk) : Value := .agg #[.int .i64 t.kind, .string t.s, .int .i64 t.at_]
def itB (t : Tk) : ByteArray := if t.kind = 1 ∨ t.kind = 5 then t.s else ⟨#[]⟩
theorem itself_any (t : Tk) (w : World) : Calls Tryz.prog 75 #[tokV t] w fun e w' => e = .returned (.string (itB t)) ∧ Below w.heap.size w w' := by
  unfold tokV
  go_enter Tryz.func75, Tryz.ntmps75
  go_wp2
  · rename_i h
    go_ret
    exact ⟨by unfold itB; rw [if_pos (Or.inl h)]; rfl, (Below.refl _ _).alloc (Nat.le_refl _) _⟩
  · rename_i h1 h
    go_ret
    have h5 : t.kind = 5 := by
      rcases h with h | h
      · exact absurd (by simpa using h) h1
      · simpa using h
    exact ⟨by unfold itB; rw [if_pos (Or.inr h5)]; rfl, (Below.refl _ _).alloc (Nat.le_refl _) _⟩
  · rename_i h1 h
    go_ret
    have h5 : ¬ t.kind = 5 := by simpa using h.2
    exact ⟨by unfold itB; rw [if_neg (by rintro (h | h) <;> contradiction)]; rfl, (Below.refl _ _).alloc (Nat.le_refl _) _⟩
theorem hdT_at {ts : List Tk} {k : Nat} (h : k < ts.length) : hdT (ts.drop k) = ts[k] := by
  rw [List.drop_eq_getElem_cons h]; rfl
theorem hdT_end {ts : List Tk} {k : Nat} (h : ¬ k < ts.length) : hdT (ts.drop k) = bT := by
  rw [List.drop_of_length_le (by omega)]; rfl
set_option maxRecDepth 100000 in
set_option maxHeartbeats 1000000 in
theorem ahead_any (w : World) (B : Nat) (p : Option Addr) (c : Nat) (ts : List Tk) (k i : Nat) (h : RS w B p c ts k) (hi : i ≤ 1) :
    Calls Tryz.prog 76 #[.pointer (some ⟨B, 0, none⟩), .int .i64 (i : Int)] w fun e w' => e = .returned (tokV (hdT ((ts.drop k).drop i))) ∧ Below w.heap.size w w' := by
  have hb0 : Below w.heap.size w (w.alloc (.cells #[.int .i64 0, .string ⟨#[]⟩, .int .i64 0] 47)) := (Below.refl _ _).alloc (Nat.le_refl _) _
  have hr := h.up hb0
  have c0 := hr.c0
  have c1 := hr.c1
  have htk := hr.tk
  have hle := h.le
  have hlen := h.len
  have hc : ∀ o, (w.alloc (.cells #[.int .i64 0, .string ⟨#[]⟩, .int .i64 0] 47)).frozen? ⟨w.heap.size, o, none⟩ = false := by intro o; simp [go_sem]
  have d0 : (w.alloc (.cells #[.int .i64 0, .string ⟨#[]⟩, .int .i64 0] 47)).cell? ⟨w.heap.size, 0, none⟩ = some (.int .i64 0) := by simp [go_sem]
  have d1 : (w.alloc (.cells #[.int .i64 0, .string ⟨#[]⟩, .int .i64 0] 47)).cell? ⟨w.heap.size, 1, none⟩ = some (.string ⟨#[]⟩) := by simp [go_sem]
  have d2 : (w.alloc (.cells #[.int .i64 0, .string ⟨#[]⟩, .int .i64 0] 47)).cell? ⟨w.heap.size, 2, none⟩ = some (.int .i64 0) := by simp [go_sem]
  have f0 := hc 0
  have f1 := hc 1
  have f2 := hc 2
  rw [List.drop_drop]
  clear hr h hc
  generalize hW0 : w.alloc (.cells #[.int .i64 0, .string ⟨#[]⟩, .int .i64 0] 47) = w0 at *
  by_cases hlt : k + i < ts.length
  · have i1 : (k : Int) + (i : Int) < (ts.length : Int) := by omega
    have i2 : (k : Int) ≤ 300 := by omega
    have i3 : (i : Int) ≤ 1 := by omega
    obtain ⟨b, off, rfl, hbw, x0, x1, x2⟩ := htk.at hlt
    rw [hdT_at hlt]
    unfold tokV
    generalize ts[k + i] = t at *
    have hwr : IntKind.i64.wrap ((k : Int) + (i : Int)) = (k : Int) + (i : Int) := IntWalk.i64_in _ (by omega)
    have i4 : (0 : Int) ≤ (k : Int) + (i : Int) := by omega
    go_enter Tryz.func76, Tryz.ntmps76
    go_wp2
    go_quiet (fail)
    go_wp2
    have i5 : ((k : Int) + (i : Int)).toNat = k + i := by omega
    have hbd : Below w.heap.size w (w0.drewN nq).drew := (below_draws' hb0 nq).drew
    have y0 : (w0.drewN nq).drew.cell? ⟨b, off + (k + i) * 3, none⟩ = some (.int .i64 t.kind) := x0
    have y1 : (w0.drewN nq).drew.cell? ⟨b, off + (k + i) * 3 + 1, none⟩ = some (.string t.s) := x1
    have y2 : (w0.drewN nq).drew.cell? ⟨b, off + (k + i) * 3 + 2, none⟩ = some (.int .i64 t.at_) := x2
    have e0 : (w0.drewN nq).drew.cell? ⟨w.heap.size, 0, none⟩ = some (.int .i64 0) := d0
    have e1 : (w0.drewN nq).drew.cell? ⟨w.heap.size, 1, none⟩ = some (.string ⟨#[]⟩) := d1
    have e2 : (w0.drewN nq).drew.cell? ⟨w.heap.size, 2, none⟩ = some (.int .i64 0) := d2
    have g0 : (w0.drewN nq).drew.frozen? ⟨w.heap.size, 0, none⟩ = false := f0
    have g1 : (w0.drewN nq).drew.frozen? ⟨w.heap.size, 1, none⟩ = false := f1
    have g2 : (w0.drewN nq).drew.frozen? ⟨w.heap.size, 2, none⟩ = false := f2
    have s0 : (w0.drewN nq).drew.cell? ⟨B, 0, none⟩ = some (.slice (some ⟨b, off, none⟩) ts.length c) := c0
    have s1 : (w0.drewN nq).drew.cell? ⟨B, 1, none⟩ = some (.int .i64 (k : Int)) := c1
    refine wp_region_still_tail 12 (by kernel_rfl) (by kernel_rfl) ?_
    change wpStill _ _ (w0.drewN nq).drew (fun a' => wpList _ _ _ _ a' (w0.drewN nq).drew) _ _
    clear x0 x1 x2 d0 d1 d2 f0 f1 f2 c0 c1 htk hW0 hb0
    generalize (w0.drewN nq).drew = wd at *
    simp only [List.take_succ_cons, List.take_zero, List.drop_succ_cons, List.drop_zero]
    repeat still_step
    refine wpStill_nil ?_
    go_wp2
    refine bodyPost_ret (v := .agg #[.int .i64 t.kind, .string t.s, .int .i64 t.at_]) (by simp [results, Tryz.results76, go_sem, e0, e1, e2]) rfl ⟨rfl, ?_⟩
    exact ((hbd.setCell (Nat.le_refl _) _).setCell (Nat.le_refl _) _).setCell (Nat.le_refl _) _
  · have i1 : ¬ (k : Int) + (i : Int) < (ts.length : Int) := by omega
    have i2 : (k : Int) ≤ 300 := by omega
    have i3 : (i : Int) ≤ 1 := by omega
    have hwr : IntKind.i64.wrap ((k : Int) + (i : Int)) = (k : Int) + (i : Int) := IntWalk.i64_in _ (by omega)
    rw [hdT_end hlt]
    unfold tokV bT
    go_enter Tryz.func76, Tryz.ntmps76
    go_wp2
    go_quiet (fail)
    go_wp2
    refine bodyPost_ret (v := .agg #[.int .i64 0, .string ⟨#[]⟩, .int .i64 0]) (by simp [results, Tryz.results76, go_sem, d0, d1, d2]) rfl ⟨rfl, ?_⟩
    exact (((below_draws' hb0 nq).setCell (Nat.le_refl _) _).setCell (Nat.le_refl _) _).setCell (Nat.le_refl _) _
theorem bytes_beq' (a b : ByteArray) : (a == b) = true ↔ a = b := by
  obtain ⟨x⟩ := a
  obtain ⟨y⟩ := b
  constructor
  · intro h
    have e : x = y := by simpa using (show (x == y) = true from h)
    rw [e]
  · intro h
    injection h with h
    show (x == y) = true
    rw [h]; simp
theorem itB_its (t : Tk) : (itB t).data.toList = its t := by
  unfold itB its
  split
  · rfl
  · rfl
theorem sayB_eq (l : List Tk) (s : ByteArray) : (itB (hdT l) == s) = sayB l s.data.toList := by
  unfold sayB
  rw [Bool.eq_iff_iff]
  simp only [decide_eq_true_eq]
  rw [← itB_its, bytes_beq']
  constructor
  · intro h; rw [h]
  · intro h
    obtain ⟨⟨a⟩⟩ := s
    generalize itB (hdT l) = x at *
    obtain ⟨⟨b⟩⟩ := x
    simp at h
    rw [h]
theorem ahead0_any (w : World) (B : Nat) (p : Option Addr) (c : Nat) (ts : List Tk) (k : Nat) (h : RS w B p c ts k) :
    Calls Tryz.prog 76 #[.pointer (some ⟨B, 0, none⟩), .int .i64 0] w fun e w' => e = .returned (tokV (hdT (ts.drop k))) ∧ Below w.heap.size w w' :=
  ahead_any w B p c ts k 0 h (by omega)
theorem ahead1_any (w : World) (B : Nat) (p : Option Addr) (c : Nat) (ts : List Tk) (k : Nat) (h : RS w B p c ts k) :
    Calls Tryz.prog 76 #[.pointer (some ⟨B, 0, none⟩), .int .i64 1] w fun e w' => e = .returned (tokV (hdT (ts.drop k).tail)) ∧ Below w.heap.size w w' := by
  have := ahead_any w B p c ts k 1 h (by omega)
  rwa [List.drop_one] at this
set_option maxRecDepth 100000 in
set_option maxHeartbeats 1000000 in
theorem says_any (w : World) (B : Nat) (p : Option Addr) (c : Nat) (ts : List Tk) (k : Nat) (s : ByteArray) (h : RS w B p c ts k) :
    Calls Tryz.prog 74 #[.pointer (some ⟨B, 0, none⟩), .string s] w fun e w' => e = .returned (.bool (sayB (ts.drop k) s.data.toList)) ∧ Below w.heap.size w w' := by
  rw [← sayB_eq]
  have H1 := ahead0_any w B p c ts k h
  generalize hdT (ts.drop k) = t at *
  have H2 := itself_any t
  go_enter Tryz.func74, Tryz.ntmps74
  go_wp2_with fail
  refine H1.mono ?_
  rintro e w1 ⟨rfl, hb1⟩
  unfold tokV at *
  go_wp2_with fail
  refine (H2 _).mono ?_
  rintro e w2 ⟨rfl, hb2⟩
  go_wp2
  go_ret
  exact ⟨by rw [beq_toListBytes]; rfl, hb1.trans (hb2.mono hb1.size)⟩
set_option maxRecDepth 100000 in
set_option maxHeartbeats 1000000 in
theorem passes_no (w : World) (B : Nat) (p : Option Addr) (c : Nat) (ts : List Tk) (k : Nat) (s : ByteArray) (h : RS w B p c ts k) (hs : sayB (ts.drop k) s.data.toList = false) :
    Calls Tryz.prog 118 #[.pointer (some ⟨B, 0, none⟩), .string s] w fun e w' => e = .returned (.bool false) ∧ Below w.heap.size w w' := by
  have H1 := says_any w B p c ts k s h
  rw [hs] at H1
  go_enter Tryz.func118, Tryz.ntmps118
  go_wp2_with fail
  refine H1.mono ?_
  rintro e w1 ⟨rfl, hb1⟩
  go_wp2
  go_ret
  exact ⟨rfl, hb1⟩
theorem sayB_lt {ts : List Tk} {k : Nat} {c : UInt8} {s : List UInt8} (h : sayB (ts.drop k) (c :: s) = true) : k < ts.length := by
  by_cases hk : k < ts.length
  · exact hk
  · unfold sayB at h
    rw [hdT_end hk] at h
    simp [its, bT] at h
set_option maxRecDepth 100000 in
set_option maxHeartbeats 1000000 in
theorem passes_yes (w : World) (B : Nat) (p : Option Addr) (c : Nat) (ts : List Tk) (k : Nat) (s : ByteArray) (h : RS w B p c ts k) (hs : sayB (ts.drop k) s.data.toList = true) (hk : k < ts.length) :
    Calls Tryz.prog 118 #[.pointer (some ⟨B, 0, none⟩), .string s] w fun e w' => e = .returned (.bool true) ∧ RS w' B p c ts (k + 1) ∧ BX B w w' := by
  have H1 := says_any w B p c ts k s h
  rw [hs] at H1
  have i1 : (k : Int) ≤ 300 := by have := h.len; omega
  go_enter Tryz.func118, Tryz.ntmps118
  go_wp2_with fail
  refine H1.mono ?_
  rintro e w1 ⟨rfl, hb1⟩
  have h1 := h.up hb1
  have c1 := h1.c1
  have f1 := h1.fz
  go_wp2
  go_ret
  refine ⟨rfl, ?_, ?_⟩
  · exact h1.set (k' := k + 1) (by omega)
  · exact (BX.of_below hb1).set 1 _
end Go.Proofs.YtpbnjdgedifnoaaGreatDoor
namespace Go.Proofs.YtpbnjdgedifnoaaGreatDoor
open Go.RowKit
set_option linter.unusedVariables false
set_option maxRecDepth 100000

set_option maxHeartbeats 1000000 in
theorem pass_ok (w : World) (B : Nat) (p : Option Addr) (c : Nat) (ts : List Tk) (k : Nat) (s : ByteArray) (h : RS w B p c ts k) (hs : sayB (ts.drop k) s.data.toList = true) (hk : k < ts.length) :
    Calls Tryz.prog 78 #[.pointer (some ⟨B, 0, none⟩), .string s] w fun e w' => e = .returned (.tuple #[]) ∧ RS w' B p c ts (k + 1) ∧ BX B w w' := by
  have H1 := passes_yes w B p c ts k s h hs hk
  go_enter Tryz.func78, Tryz.ntmps78
  go_wp2_with fail
  refine H1.mono ?_
  rintro e w1 ⟨rfl, h1, hx1⟩
  go_wp2_with fail
  refine (pneed_true _ _).mono ?_
  rintro e w2 ⟨rfl, rfl⟩
  go_wp2
  go_end0
  exact ⟨rfl, h1, hx1⟩
set_option maxHeartbeats 1000000 in
theorem pass_bad (w : World) (B : Nat) (p : Option Addr) (c : Nat) (ts : List Tk) (k : Nat) (s : ByteArray) (h : RS w B p c ts k) (hs : sayB (ts.drop k) s.data.toList = false) :
    Calls Tryz.prog 78 #[.pointer (some ⟨B, 0, none⟩), .string s] w fun e w' => e = .panicked (thrownP 1) ∧ RS w' B p c ts k ∧ BX B w w' := by
  have H1 := passes_no w B p c ts k s h hs
  go_enter Tryz.func78, Tryz.ntmps78
  go_wp2_with fail
  refine H1.mono ?_
  rintro e w1 ⟨rfl, hb1⟩
  go_wp2_with fail
  refine (pneed_false _ _).mono ?_
  rintro e w2 ⟨rfl, rfl⟩
  go_wp2
  exact ⟨rfl, rfl, h.up hb1, BX.of_below hb1⟩
set_option maxHeartbeats 1000000 in
theorem take_ok (w : World) (B : Nat) (p : Option Addr) (c : Nat) (ts : List Tk) (k : Nat) (kd : Int) (h : RS w B p c ts k) (hk : k < ts.length) (hd : (hdT (ts.drop k)).kind = kd) :
    Calls Tryz.prog 171 #[.pointer (some ⟨B, 0, none⟩), .int .i64 kd] w fun e w' => e = .returned (.string (hdT (ts.drop k)).s) ∧ RS w' B p c ts (k + 1) ∧ BX B w w' := by
  have H1 := ahead0_any w B p c ts k h
  have i1 : (k : Int) ≤ 300 := by have := h.len; omega
  generalize hdT (ts.drop k) = t at *
  unfold tokV at H1
  subst hd
  go_enter Tryz.func171, Tryz.ntmps171
  go_wp2_with fail
  refine H1.mono ?_
  rintro e w1 ⟨rfl, hb1⟩
  have hbt : Below w1.heap.size w1 (w1.alloc (.cells #[.int .i64 t.kind, .string t.s, .int .i64 t.at_] 47)) := (Below.refl _ _).alloc (Nat.le_refl _) _
  have h1 := (h.up hb1).up hbt
  have c1 := h1.c1
  have f1 := h1.fz
  go_wp2_with fail
  refine (pneed_true _ _).mono ?_
  rintro e w2 ⟨rfl, rfl⟩
  have hsz : w1.heap.size ≠ B := by have := (h.up hb1).lt; omega
  go_wp2
  go_ret
  exact ⟨rfl, h1.set (k' := k + 1) (by omega), ((BX.of_below hb1).up hbt).set 1 _⟩
set_option maxHeartbeats 1000000 in
theorem take_bad (w : World) (B : Nat) (p : Option Addr) (c : Nat) (ts : List Tk) (k : Nat) (kd : Int) (h : RS w B p c ts k) (hd : ((hdT (ts.drop k)).kind == kd) = false) :
    Calls Tryz.prog 171 #[.pointer (some ⟨B, 0, none⟩), .int .i64 kd] w fun e w' => e = .panicked (thrownP 1) ∧ RS w' B p c ts k ∧ BX B w w' := by
  have H1 := ahead0_any w B p c ts k h
  generalize hdT (ts.drop k) = t at *
  unfold tokV at H1
  go_enter Tryz.func171, Tryz.ntmps171
  go_wp2_with fail
  refine H1.mono ?_
  rintro e w1 ⟨rfl, hb1⟩
  have hbt : Below w1.heap.size w1 (w1.alloc (.cells #[.int .i64 t.kind, .string t.s, .int .i64 t.at_] 47)) := (Below.refl _ _).alloc (Nat.le_refl _) _
  go_wp2_with fail
  refine (pneed_false _ _).mono ?_
  rintro e w2 ⟨rfl, rfl⟩
  go_wp2
  exact ⟨rfl, rfl, (h.up hb1).up hbt, (BX.of_below hb1).up hbt⟩
end Go.Proofs.YtpbnjdgedifnoaaGreatDoor
namespace Go.Proofs.YtpbnjdgedifnoaaGreatDoor
open Go.RowKit Go.Maps Go.WideMaps
set_option linter.unusedVariables false
set_option maxRecDepth 100000

theorem key_law : Keyed Tryz.prog 9 := string_keyed Tryz.underlying9
theorem zero_int (w : World) : (zeroValue 3).run Tryz.prog w = .ok (.int .i64 0) w := by kernel_rfl

/-- A map tells what a function tells of each text. -/
structure OpsM (D : DataW Unit) (f : List UInt8 → Option Int) : Prop where
  has : ∀ x : List UInt8, Maps.has D (.string x) = (f x).isSome
  val : ∀ x : List UInt8, D.atKey (.string x) (.lit (.int .i64 0)) = .lit (.int .i64 ((f x).getD 0))
def putF (f : List UInt8 → Option Int) (k : List UInt8) (o : Int) : List UInt8 → Option Int := fun x => if x = k then some o else f x
def noF : List UInt8 → Option Int := fun _ => none
theorem OpsM.start : OpsM (.map []) noF := ⟨fun x => by simp [Maps.has, noF], fun x => rfl⟩
theorem OpsM.put {D : DataW Unit} {f : List UInt8 → Option Int} (h : OpsM D f) (ht : Tidy D) (k : List UInt8) (o : Int) : OpsM (D.put (.string k) (.lit (.int .i64 o))) (putF f k o) := by
  have hkl : WideAt.IsKeyLit (.string k) := trivial
  refine ⟨fun x => ?_, fun x => ?_⟩
  · by_cases e : x = k
    · subst e
      rw [has_put_same ht.isMap hkl]
      simp [putF]
    · rw [has_put_other (fun q => e (by injection q)), h.has]
      simp [putF, e]
  · by_cases e : x = k
    · subst e
      rw [atKey_put_same ht.isMap hkl]
      simp [putF]
    · rw [atKey_put_other (fun q => e (by injection q)), h.val]
      simp [putF, e]
/-- A map of the call's own in a block, with at most so many names. -/
def OM (w : World) (b n : Nat) (f : List UInt8 → Option Int) : Prop := ∃ D, w.ownsMap Tryz.prog 9 (plainElem Tryz.prog 3) b n D ∧ OpsM D f
theorem OM.made (w : World) : OM (w.alloc (.map #[] 0)) w.heap.size 0 noF := ⟨.map [], World.ownsMap_made _ _ _ _, OpsM.start⟩
theorem OM.put {w : World} {b n : Nat} {f : List UInt8 → Option Int} (h : OM w b n f) (hn : n ≤ 10) (k : ByteArray) (hk : k.size ≤ maxLen) (o : Int) (ho : 0 ≤ o) (ho2 : o ≤ 100) :
    ∃ w', (Instr.mapUpdate 144 (.map (some b)) (.string k) (.int .i64 o)).run Tryz.prog w = .ok () w' ∧ OM w' b (n + 1) (putF f k.data.toList o) ∧ w.grownBy w' (some b) := by
  obtain ⟨D, h1, h2⟩ := h
  obtain ⟨w', r1, r2, r3⟩ := h1.update (t := 144) (e := 3) key_law Tryz.underlying144 (by unfold maxLen; omega) (keyOf_string_mk Tryz.underlying9 hk) (plainElem_int Tryz.underlying3 (WalkArith.wf_i64 (n := o) (by omega)))
  exact ⟨w', r1, ⟨_, r2, h2.put (h1.tidy key_law) _ _⟩, r3⟩
theorem OM.lt {w : World} {b n : Nat} {f : List UInt8 → Option Int} (h : OM w b n f) : b < w.heap.size := by
  obtain ⟨D, h1, h2⟩ := h; exact h1.lt
theorem OM.of_block {w w' : World} {b n : Nat} {f : List UInt8 → Option Int} (h : OM w b n f) (hb : w'.heap[b]? = w.heap[b]?) : OM w' b n f := by
  obtain ⟨D, ⟨es, clock, h1, h3⟩, h2⟩ := h
  exact ⟨D, ⟨es, clock, hb.trans h1, h3⟩, h2⟩
theorem OM.ne {w : World} {b n : Nat} {f : List UInt8 → Option Int} {B : Nat} {p : Option Addr} {c : Nat} {ts : List Tk} {k : Nat} (h : OM w b n f) (hr : RS w B p c ts k) : b ≠ B := by
  intro e; subst e
  obtain ⟨D, ⟨es, clock, h1, h3⟩, h2⟩ := h
  rw [hr.blk] at h1
  injection h1 with h1
  cases h1
theorem OM.bx {w w' : World} {b n : Nat} {f : List UInt8 → Option Int} {B : Nat} {p : Option Addr} {c : Nat} {ts : List Tk} {k : Nat} (h : OM w b n f) (hr : RS w B p c ts k) (hx : BX B w w') : OM w' b n f :=
  h.of_block (hx.block b h.lt (h.ne hr))
theorem OM.up {w w' : World} {b n : Nat} {f : List UInt8 → Option Int} (h : OM w b n f) (hb : Below w.heap.size w w') : OM w' b n f := h.of_block (hb.block b h.lt)
/-- A map that is laid in a block above all that lay there keeps what lay there. -/
theorem grown_below {w0 w w' : World} {b : Nat} (h : Below w0.heap.size w0 w) (hg : w.grownBy w' (some b)) (hb : w0.heap.size ≤ b) : Below w0.heap.size w0 w' :=
  h.grown hg h.size (fun j hj => by cases hj; exact hb)
theorem lookup_op (w : World) {ops : Array Oper} {rest : List Oper} {o : Oper} {a : Act} {Q : Exit → Act → World → Prop} (hg : o.guard = none) (m x : Operand) (hop : o.op = Op.lookup 144 m x true)
    (b n : Nat) (f : List UInt8 → Option Int) (hm : a.eval m = .map (some b)) (hown : OM w b n f) (s : ByteArray) (hx : a.eval x = .string s) (hs : s.size ≤ maxLen)
    (hK : wpList Tryz.prog ops Q rest (a.put o.dst (.tuple #[.int .i64 ((f s.data.toList).getD 0), .bool (f s.data.toList).isSome])) w) : wpList Tryz.prog ops Q (o :: rest) a w := by
  obtain ⟨D, h1, h2⟩ := hown
  exact wpList_lookup_own_ok_int w hg m x 144 hop 9 3 .i64 key_law Tryz.underlying144 Tryz.underlying3 (zero_int _) b n D hm h1 _ _ hx (keyOf_string_mk Tryz.underlying9 hs) (fun c hat _ => by
    rw [h2.val] at hat
    injection hat with h1
    injection h1 with _ h3
    rw [← h3, h2.has]; exact hK)
end Go.Proofs.YtpbnjdgedifnoaaGreatDoor
