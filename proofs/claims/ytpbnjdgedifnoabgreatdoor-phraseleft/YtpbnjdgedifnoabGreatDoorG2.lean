/- The parser of words and the document's way of reading them halt at the same word: the rest of it. No program is named here. The parser of words and the document's way of reading them: atoms, sets, records; all together. No program is named here. The forms of a line, as the document has them, plain; what the parser comes to is of its form. No program is named here. The parser with more fuel, and with enough of it, plain. No program is named here. What is of a form is read as that form: the parser is complete, plain. No program is named here. The parser is complete, plain: all forms. No program is named here. Numbers as they are written, plain. No program is named here. Expressions as they are written, plain; what is written is read as it was. No program is named here. -/
import Derived.Test.YtpbnjdgedifnoabGreatDoorG1
namespace Go.Proofs.YtpbnjdgedifnoabGreatDoor
set_option linter.unusedVariables false

theorem rel_stop {t : Tk} (h : relS t = true) : (t.kind == 2) = false ∧ hasS t = false ∧ nam t wLike = false ∧ ands t = false ∧ ors t = false := by
  unfold relS at h
  simp only [Bool.or_eq_true] at h
  rcases h with ((h | h) | h) | h
  · exact ⟨by rw [(sgn_kind h).1]; rfl, by unfold hasS; rw [sgn_nam h, sgn_nam h]; rfl, sgn_nam h _, sgn_ne h (by decide), sgn_ne h (by decide)⟩
  · exact ⟨by rw [(sgn_kind h).1]; rfl, by unfold hasS; rw [sgn_nam h, sgn_nam h]; rfl, sgn_nam h _, sgn_ne h (by decide), sgn_ne h (by decide)⟩
  · exact ⟨by rw [(sgn_kind h).1]; rfl, by unfold hasS; rw [sgn_nam h, sgn_nam h]; rfl, sgn_nam h _, sgn_ne h (by decide), sgn_ne h (by decide)⟩
  · exact ⟨by rw [(nam_kind h).1]; rfl, by unfold hasS; rw [nam_ne h (by decide), nam_ne h (by decide)]; rfl, nam_ne h (by decide), nam_sgn h _, nam_sgn h _⟩

/-- Behind a sum whose rel had its sign. -/
theorem accA_had (s : PS) (l : List Tk) (hs : ∀ t r, l = t :: r → stopA t = false) : accA (s.put true) l = accR s l := by
  cases l with
  | nil => rfl
  | cons t r =>
    have h := hs t r rfl
    rw [accA_cons, accR_cons]
    rw [show ((s.put true).to 3).after t = _ from after_three (s.put true) t h]
    rw [put_had, put_put, done_put]
    simp only [Bool.not_true, Bool.false_and, Bool.false_eq_true, if_false]
    rfl
theorem sim_rel {n : Nat} (h : Sim n) (s : PS) (l : List Tk) (hk : AllK l) (hh : s.had = false) : SimR (accB s false l) (accR s) st8 (pE (n + 1) 3 l) := by
  have e : pE (n + 1) 3 l = andR (pE n 4 l) fun a r =>
        match r with
        | [] => some (.ok (a, []))
        | t :: r1 =>
          if relS t = true then andR (pE n 4 r1) fun b r2 => some (.ok (opN (opOf t) :: (a ++ b), r2))
          else if hasS t = true then must (fun u => u.kind == 1) r1 fun u r2 => some (.ok (mkN (if nam t wHas = true then 21 else 24) 0 u.l [] :: a, r2))
          else if nam t wLike = true then must (fun u => u.kind == 3) r1 fun u r2 => some (.ok (mkN 23 0 u.l [] :: a, r2))
          else some (.ok (a, t :: r1)) := by rw [pE.eq_def]; rfl
  rw [e]
  refine SimR.and (h.sum s l hk) fun a r h1 h2 => ?_
  cases r with
  | nil => exact SimR.ok rfl (fun _ _ _ => rfl) h2
  | cons t r1 =>
    have hst := h1 t r1 rfl
    have ha := after_three s t hst
    rw [hh] at ha
    simp only [Bool.not_false, Bool.true_and] at ha
    simp only
    by_cases c1 : relS t = true
    · rw [if_pos c1] at ha
      rw [if_pos c1]
      refine SimR.eqX (X' := accB (s.put true) false r1) ?_ ?_
      · rw [accA_cons, ha, stp_some, acc_two]
      · refine SimR.and (h.sum (s.put true) r1 h2.tail) fun b r2 g1 g2 => ?_
        exact SimR.ok (accA_had s r2 g1) (fun _ _ _ => rfl) g2
    · rw [if_neg c1] at ha
      rw [if_neg c1]
      by_cases c2 : hasS t = true
      · rw [if_pos c2] at ha
        rw [if_pos c2]
        refine SimR.need ?_ ?_ ?_
        · intro e; subst e; rw [accA_cons, ha, stp_some]; rfl
        · intro u r2 e hu; subst e
          rw [accA_cons, ha, stp_some, acc_cons]
          have : ((s.put true).to 6).next u t = none := by
            show (if (u.kind == 1) = true then _ else _) = _
            rw [show (u.kind == 1) = false from hu]; rfl
          rw [this]; rfl
        · intro u r2 e hu; subst e
          refine SimR.ok ?_ (fun _ _ _ => rfl) h2.tail.tail
          rw [accA_cons, ha, stp_some, acc_cons]
          have hk1 : u.kind = 1 := by simpa using hu
          have : ((s.put true).to 6).next u t = some ((s.put true).to 10) := by
            show (if (u.kind == 1) = true then _ else _) = _
            rw [show (u.kind == 1) = true from hu]; rfl
          rw [this, off_kind (by rw [hk1]; rfl), stp_some, acc_ten, accR_put]
      · rw [if_neg c2] at ha
        rw [if_neg c2]
        by_cases c3 : nam t wLike = true
        · rw [if_pos c3] at ha
          rw [if_pos c3]
          refine SimR.need ?_ ?_ ?_
          · intro e; subst e; rw [accA_cons, ha, stp_some]; rfl
          · intro u r2 e hu; subst e
            rw [accA_cons, ha, stp_some, acc_cons]
            have : ((s.put true).to 7).next u t = none := by
              show (if (u.kind == 3) = true then _ else _) = _
              rw [show (u.kind == 3) = false from hu]; rfl
            rw [this]; rfl
          · intro u r2 e hu; subst e
            refine SimR.ok ?_ (fun _ _ _ => rfl) h2.tail.tail
            rw [accA_cons, ha, stp_some, acc_cons]
            have hk1 : u.kind = 3 := by simpa using hu
            have : ((s.put true).to 7).next u t = some ((s.put true).to 10) := by
              show (if (u.kind == 3) = true then (if sgn t [58, 58] = true then _ else _) else _) = _
              rw [show (u.kind == 3) = true from hu, nam_sgn c3]; rfl
            rw [this, off_kind (by rw [hk1]; rfl), stp_some, acc_ten, accR_put]
        · rw [if_neg c3] at ha
          rw [if_neg c3]
          refine SimR.ok ?_ (fun _ _ _ => rfl) h2
          rw [accA_cons, ha, accR_cons]

theorem accE_push (s : PS) (o : Nat) (h : (o == 3) = false) : accE (s.push o) = some (0, 1) := by
  unfold accE PS.push
  simp only [List.all_cons, h, Bool.false_and, Bool.false_eq_true, if_false]
theorem accW_else (s : PS) (l : List Tk) : accW (s.push 3) l = accW s l := by
  cases l with
  | nil => unfold accW accE PS.push; simp
  | cons t r =>
    rw [accW_cons, accW_cons]
    congr 1
theorem done_then (s : PS) (t : Tk) : (s.push 1).done t = if nam t wThen = true then some (s.push 2) else none := by
  unfold PS.done PS.push doneO
  cases h : nam t wThen
  · simp
  · simp
theorem done_other (s : PS) (t : Tk) : (s.push 2).done t = if nam t wElse = true then some (s.push 3) else none := by
  unfold PS.done PS.push doneO
  cases h : nam t wElse
  · simp
  · simp
theorem done_round (s : PS) (t : Tk) : (s.push 4).done t = if sgn t [41] = true then some (s.to 3) else none := by
  unfold PS.done PS.push doneO
  cases h : sgn t [41]
  · simp
  · simp [PS.to]
theorem done_set (s : PS) (t : Tk) : (s.push 5).done t = if sgn t [93] = true then some (s.to 3) else if sgn t [44] = true then some (s.push 5) else none := by
  unfold PS.done PS.push doneO
  cases h : sgn t [93]
  · cases h2 : sgn t [44] <;> simp
  · simp [PS.to]

theorem sim_whole {n : Nat} (h : Sim n) (s : PS) (b : Tk) (l : List Tk) (hk : AllK l) (hh : s.had = false) : SimR (acc (s.to 1) b l) (accW s) st8 (pE (n + 1) 0 l) := by
  cases l with
  | nil =>
    have e : pE (n + 1) 0 [] = pE n 1 [] := by rw [pE.eq_def]; rfl
    rw [e]
    exact SimR.eqX rfl (h.either s [] hk hh)
  | cons t r =>
    by_cases c : (nam t wIf && !nextS r [58, 58]) = true
    · have e : pE (n + 1) 0 (t :: r) = andR (pE n 0 r) fun a r1 => must (fun u => nam u wThen) r1 fun _ r2 => andR (pE n 0 r2) fun b r3 => must (fun u => nam u wElse) r3 fun _ r4 =>
            andR (pE n 0 r4) fun c r5 => some (.ok (opN 13 :: (a ++ (b ++ c)), r5)) := by
        rw [pE.eq_def]; simp only [if_true, c]
      rw [e]
      rw [Bool.and_eq_true] at c
      have cn : nextS r [58, 58] = false := by simpa using c.2
      have e1 : acc (s.to 1) b (t :: r) = acc ((s.push 1).to 1) t r := by
        rw [acc_cons]
        have : (s.to 1).next t b = some (s.to 15) := by
          show (s.to 1).whole t = _
          unfold PS.whole; rw [c.1]; rfl
        rw [this, off_kind (by rw [(nam_kind c.1).1]; rfl), stp_some, acc_if s t t r cn]
        rfl
      refine SimR.eqX e1 (SimR.and (h.whole (s.push 1) t r hk.tail rfl) fun a r1 _ g1 => ?_)
      refine SimR.need ?_ ?_ ?_
      · intro e; subst e; exact accE_push s 1 rfl
      · intro u r2 e hu; subst e
        rw [accW_cons, done_then, if_neg (by rw [show nam u wThen = false from hu]; decide)]; rfl
      · intro u r2 e hu; subst e
        refine SimR.eqX (X' := acc ((s.push 2).to 1) u r2) ?_ ?_
        · rw [accW_cons, done_then, if_pos hu]; rfl
        · refine SimR.and (h.whole (s.push 2) u r2 g1.tail rfl) fun b' r3 _ g2 => ?_
          refine SimR.need ?_ ?_ ?_
          · intro e; subst e; exact accE_push s 2 rfl
          · intro v r4 e hv; subst e
            rw [accW_cons, done_other, if_neg (by rw [show nam v wElse = false from hv]; decide)]; rfl
          · intro v r4 e hv; subst e
            refine SimR.eqX (X' := acc ((s.push 3).to 1) v r4) ?_ ?_
            · rw [accW_cons, done_other, if_pos hv]; rfl
            · refine SimR.and (h.whole (s.push 3) v r4 g2.tail rfl) fun c' r5 _ g3 => ?_
              exact SimR.ok (accW_else s r5) (fun _ _ _ => rfl) g3
    · have e : pE (n + 1) 0 (t :: r) = pE n 1 (t :: r) := by rw [pE.eq_def]; simp only [if_true, if_neg c]
      rw [e]
      refine SimR.eqX ?_ (h.either s (t :: r) hk hh)
      rw [acc_cons, accB_cons]
      have e2 : (s.to 1).next t b = (s.to 1).whole t := rfl
      rw [e2, whole_plain _ _ _ rfl]
      by_cases c2 : nam t wIf = true
      · rw [if_pos c2]
        have cn : nextS r [58, 58] = true := by
          cases hc : nextS r [58, 58] with
          | true => rfl
          | false => rw [c2, hc] at c; exact absurd rfl c
        obtain ⟨k1, k2⟩ := nam_kind c2
        have ha : s.atom t = some (s.to 11) := by
          unfold PS.atom; rw [k1, k2]; rfl
        rw [ha, off_kind (by rw [k1]; rfl), off_kind (by rw [k1]; rfl), stp_some, stp_some]
        cases r with
        | nil => cases cn
        | cons u r' =>
          have hu : sgn u [58, 58] = true := cn
          rw [acc_cons, acc_cons]
          have n1 : (s.to 15).next u t = some (s.to 7) := by
            show (if sgn u [58, 58] = true then _ else _) = _
            rw [hu]; rfl
          have n2 : (s.to 11).next u t = some (s.to 7) := by
            show (if sgn u [58, 58] = true then _ else _) = _
            rw [hu]; rfl
          rw [n1, n2]
          rfl
      · rw [if_neg c2]; rfl

theorem sim_sign {n : Nat} (h : Sim n) (s : PS) (l : List Tk) (hk : AllK l) : SimR (accB s false l) (accA s) st7 (pE (n + 1) 6 l) := by
  cases l with
  | nil =>
    have e : pE (n + 1) 6 [] = pE n 7 [] := by rw [pE.eq_def]; rfl
    rw [e]
    exact h.post s [] hk (fun t r h => by cases h)
  | cons t r =>
    by_cases c1 : sgn t [33] = true
    · have e : pE (n + 1) 6 (t :: r) = andR (pE n 6 r) fun a r1 => some (.ok (opN 9 :: a, r1)) := by rw [pE.eq_def]; simp [c1]
      rw [e]
      obtain ⟨k1, k2⟩ := sgn_kind c1
      refine SimR.eqX (X' := accB s false r) ?_ (SimR.and (h.sign s r hk.tail) fun a r1 g1 g2 => SimR.ok rfl g1 g2)
      have ha : s.atom t = some (s.to 2) := by unfold PS.atom; rw [k1, k2]; rfl
      rw [accB_cons, ha, off_kind (by rw [k1]; rfl), stp_some, acc_two]
    · by_cases c2 : (sgn t [45] && !nextNum r) = true
      · have e : pE (n + 1) 6 (t :: r) = andR (pE n 6 r) fun a r1 => some (.ok (opN 10 :: a, r1)) := by rw [pE.eq_def]; simp [c1, c2]
        rw [e]
        rw [Bool.and_eq_true] at c2
        obtain ⟨k1, k2⟩ := sgn_kind c2.1
        refine SimR.eqX (X' := accB s false r) ?_ (SimR.and (h.sign s r hk.tail) fun a r1 g1 g2 => SimR.ok rfl g1 g2)
        have ha : s.atom t = some (s.to 4) := by unfold PS.atom; rw [k1, k2]; rfl
        rw [accB_cons, ha, off_kind (by rw [k1]; rfl), stp_some, acc_four _ _ _ (by simpa using c2.2)]
      · have e : pE (n + 1) 6 (t :: r) = pE n 7 (t :: r) := by rw [pE.eq_def]; simp [c1, c2]
        rw [e]
        refine h.post s (t :: r) hk (fun t' r' he => ?_)
        injection he with h1 h2
        subst h1 h2
        refine ⟨by simpa using c1, fun h45 => ?_⟩
        cases hn : nextNum r with
        | true => rfl
        | false => rw [h45, hn] at c2; exact absurd rfl c2

theorem sim_posts {n : Nat} (h : Sim n) (s : PS) (a : List Nd) (l : List Tk) (hk : AllK l) : SimR (accA s l) (accA s) st7 (pP (n + 1) a l) := by
  cases l with
  | nil =>
    have e : pP (n + 1) a [] = some (.ok (a, [])) := by rw [pP.eq_def]
    rw [e]
    exact SimR.ok rfl (fun t r' h => by cases h) hk
  | cons t r =>
    by_cases c1 : sgn t [46] = true
    · have e : pP (n + 1) a (t :: r) = must (fun u => u.kind == 1) r fun u r1 =>
        (if (isCall u && nextS r1 [40]) = true then andR (pE n 0 r1.tail) fun b r2 => must (fun v => sgn v [41]) r2 fun _ r3 => pP n (opN (callOp u) :: (a ++ b)) r3
         else pP n (mkN 22 0 u.l [] :: a) r1) := by rw [pP.eq_def]; simp only [c1, if_true]
      rw [e]
      have e1 : accA s (t :: r) = acc (s.to 5) t r := by
        have : (s.to 3).after t = some (s.to 5) := by
          unfold PS.after
          have e3 : ((s.to 3).want == 10) = false := rfl
          rw [e3, c1]; rfl
        rw [accA_cons, this, stp_some]
      refine SimR.eqX e1 ?_
      refine SimR.need ?_ ?_ ?_
      · intro e; subst e; rfl
      · intro u r1 e hu; subst e
        rw [acc_cons]
        have : (s.to 5).next u t = none := by
          show (if (u.kind == 1) = true then _ else _) = _
          rw [show (u.kind == 1) = false from hu]; rfl
        rw [this]; rfl
      · intro u r1 e hu; subst e
        have hk1 : u.kind = 1 := by simpa using hu
        have hnx : (s.to 5).next u t = if isCall u = true then some (s.to 13) else some (s.to 3) := by
          show (if (u.kind == 1) = true then _ else _) = _
          rw [show (u.kind == 1) = true from hu]; rfl
        have e2 : acc (s.to 5) t (u :: r1) = if isCall u = true then acc (s.to 13) u r1 else acc (s.to 3) u r1 := by
          rw [acc_cons, hnx, off_kind (by rw [hk1]; rfl)]
          by_cases hc : isCall u = true
          · rw [if_pos hc, if_pos hc]; rfl
          · rw [if_neg hc, if_neg hc]; rfl
        rw [e2]
        by_cases c2 : (isCall u && nextS r1 [40]) = true
        · simp only [if_pos c2]
          rw [Bool.and_eq_true] at c2
          rw [if_pos c2.1]
          cases r1 with
          | nil => cases c2.2
          | cons v r2 =>
            have hv : sgn v [40] = true := c2.2
            refine SimR.eqX (X' := acc ((s.push 4).to 1) v r2) ?_ ?_
            · rw [acc_cons]
              have : (s.to 13).next v u = some (s.push 4) := by
                show (if sgn v [40] = true then _ else _) = _
                rw [hv]; rfl
              rw [this, off_kind (by rw [(sgn_kind hv).1]; rfl)]; rfl
            · refine SimR.and (h.whole (s.push 4) v r2 hk.tail.tail.tail rfl) fun b r3 _ g1 => ?_
              refine SimR.need ?_ ?_ ?_
              · intro e; subst e; exact accE_push s 4 rfl
              · intro x r4 e hx; subst e
                rw [accW_cons, done_round, if_neg (by rw [show sgn x [41] = false from hx]; decide)]; rfl
              · intro x r4 e hx; subst e
                refine SimR.eqX (X' := accA s r4) ?_ (h.posts s _ r4 g1.tail)
                rw [accW_cons, done_round, if_pos hx, stp_some, acc_three]
        · simp only [if_neg c2]
          refine SimR.eqX (X' := accA s r1) ?_ (h.posts s _ r1 hk.tail.tail)
          by_cases hc : isCall u = true
          · rw [if_pos hc]
            have : nextS r1 [40] = false := by
              cases hn : nextS r1 [40] with
              | false => rfl
              | true => rw [hc, hn] at c2; exact absurd rfl c2
            rw [acc_open _ _ _ this]
          · rw [if_neg hc, acc_three]
    · have e : pP (n + 1) a (t :: r) = some (.ok (a, t :: r)) := by rw [pP.eq_def]; simp only [if_neg c1]
      rw [e]
      exact SimR.ok rfl (fun t' r' h' => by injection h' with h1 _; rw [← h1]; show sgn t [46] = false; simpa using c1) hk
end Go.Proofs.YtpbnjdgedifnoabGreatDoor
namespace Go.Proofs.YtpbnjdgedifnoabGreatDoor
set_option linter.unusedVariables false

theorem pop_to (s : PS) (o w : Nat) : ((s.push o).to w).pop = s.to 3 := rfl

theorem sim_sets {n : Nat} (h : Sim n) (s : PS) (b : Tk) (k : Nat) (a : List Nd) (l : List Tk) (hk : AllK l) : SimR (acc ((s.push 5).to 1) b l) (accA s) st8 (pS (n + 1) k a l) := by
  have e : pS (n + 1) k a l = andR (pE n 0 l) fun a' r =>
      match r with
      | [] => some (.error (0, 1))
      | t :: r1 => if sgn t [93] = true then some (.ok (mkN 5 ((k : Int) + 1) [] [] :: (a ++ a'), r1)) else if sgn t [44] = true then pS n (k + 1) (a ++ a') r1 else some (.error (r1.length + 1, 1)) := by
    rw [pS.eq_def]; rfl
  rw [e]
  refine SimR.and (h.whole (s.push 5) b l hk rfl) fun a' r _ g => ?_
  cases r with
  | nil => exact SimR.err (accE_push s 5 rfl)
  | cons t r1 =>
    simp only
    by_cases c1 : sgn t [93] = true
    · rw [if_pos c1]
      refine SimR.ok ?_ (fun _ _ _ => rfl) g.tail
      rw [accW_cons, done_set, if_pos c1, stp_some, acc_three]
    · rw [if_neg c1]
      by_cases c2 : sgn t [44] = true
      · rw [if_pos c2]
        refine SimR.eqX ?_ (h.sets s t (k + 1) (a ++ a') r1 g.tail)
        rw [accW_cons, done_set, if_neg c1, if_pos c2, stp_some]; rfl
      · rw [if_neg c2]
        refine SimR.err ?_
        rw [accW_cons, done_set, if_neg c1, if_neg c2]; rfl

theorem comR_sgn {nm : List UInt8} {t : Tk} (h : comR nm t = true) : sgn t [44] = true := by
  unfold comR at h; rw [Bool.and_eq_true] at h; exact h.1
/-- In a record, behind a name. -/
def inRec (s : PS) (w : Nat) (nm : List UInt8) : PS := ⟨w, 6 :: s.opn, false :: s.rel, nm :: s.last⟩
theorem done_rec (s : PS) (w : Nat) (nm : List UInt8) (t : Tk) : (inRec s w nm).done t = if sgn t [125] = true then some (s.to 3) else if comR nm t = true then some (inRec s 8 nm) else none := by
  unfold PS.done inRec doneO
  cases h : sgn t [125]
  · cases h2 : comR nm t <;> simp [h2]
  · simp [PS.to]
theorem accE_rec (s : PS) (w : Nat) (nm : List UInt8) : accE (inRec s w nm) = some (0, 1) := by
  unfold accE inRec
  simp

theorem sim_keys {n : Nat} (h : Sim n) (s : PS) (b : Tk) (k : Nat) (nm : List UInt8) (a : List Nd) (l : List Tk) (hk : AllK l) (hb : ∀ t r, l = t :: r → (sgn t [125] && sgn b [123]) = false) :
    SimR (acc ⟨8, 6 :: s.opn, false :: s.rel, nm :: s.last⟩ b l) (accA s) st8 (pK (n + 1) k nm a l) := by
  have e : pK (n + 1) k nm a l = must (fun u => u.kind == 1 && decide (Lib.compareBytes nm u.l < 0)) l fun u r0 => must (fun v => sgn v [58]) r0 fun _ r1 =>
      andR (pE n 0 r1) fun a' r =>
        match r with
        | [] => some (.error (0, 1))
        | t :: r2 => if sgn t [125] = true then some (.ok (mkN 6 ((k : Int) + 1) [] [] :: (a ++ (mkN 7 0 u.l [] :: a')), r2)) else if comR u.l t = true then pK n (k + 1) u.l (a ++ (mkN 7 0 u.l [] :: a')) r2 else some (.error (r2.length + 1, 1)) := by
    rw [pK.eq_def]; rfl
  rw [e]
  show SimR (acc (inRec s 8 nm) b l) (accA s) st8 _
  refine SimR.need ?_ ?_ ?_
  · intro e; subst e; rfl
  · intro u r e hu; subst e
    have hn : (inRec s 8 nm).next u b = none := by
      show (if (sgn u [125] && sgn b [123]) = true then _ else if (u.kind == 1 && decide (Lib.compareBytes nm u.l < 0)) = true then _ else none) = _
      rw [hb u r rfl, hu]; rfl
    rw [acc_cons, hn]; rfl
  · intro u r e hu; subst e
    have hn : (inRec s 8 nm).next u b = some (inRec s 9 u.l) := by
      show (if (sgn u [125] && sgn b [123]) = true then _ else if (u.kind == 1 && decide (Lib.compareBytes nm u.l < 0)) = true then _ else none) = _
      rw [hb u r rfl, hu]; rfl
    have hu1 : u.kind = 1 := by rw [Bool.and_eq_true] at hu; simpa using hu.1
    have e1 : acc (inRec s 8 nm) b (u :: r) = acc (inRec s 9 u.l) u r := by
      rw [acc_cons, hn, off_kind (by rw [hu1]; rfl)]; rfl
    rw [e1]
    refine SimR.need ?_ ?_ ?_
    · intro e; subst e; rfl
    · intro v r1 e hv; subst e
      have hm : (inRec s 9 u.l).next v u = none := by
        show (if sgn v [58] = true then _ else _) = _
        rw [show sgn v [58] = false from hv]; rfl
      rw [acc_cons, hm]; rfl
    · intro v r1 e hv; subst e
      have hv' : sgn v [58] = true := hv
      have hm : (inRec s 9 u.l).next v u = some (inRec s 1 u.l) := by
        show (if sgn v [58] = true then _ else _) = _
        rw [hv']; rfl
      have e2 : acc (inRec s 9 u.l) u (v :: r1) = acc ((inRec s 1 u.l).to 1) v r1 := by
        rw [acc_cons, hm, off_kind (by rw [(sgn_kind hv').1]; rfl)]; rfl
      rw [e2]
      refine SimR.and (h.whole (inRec s 1 u.l) v r1 hk.tail.tail rfl) fun a' r2 _ g => ?_
      cases r2 with
      | nil => exact SimR.err (accE_rec s 1 u.l)
      | cons t r3 =>
        simp only
        by_cases c1 : sgn t [125] = true
        · rw [if_pos c1]
          refine SimR.ok ?_ (fun _ _ _ => rfl) g.tail
          rw [accW_cons, done_rec, if_pos c1, stp_some, acc_three]
        · rw [if_neg c1]
          by_cases c2 : comR u.l t = true
          · rw [if_pos c2]
            refine SimR.eqX ?_ (h.keys s t (k + 1) u.l _ r3 g.tail ?_)
            · rw [accW_cons, done_rec, if_neg c1, if_pos c2, stp_some]; rfl
            · intro x r4 _
              rw [sgn_ne (comR_sgn c2) (by decide : ([44] : List UInt8) ≠ [123])]; simp
          · rw [if_neg c2]
            refine SimR.err ?_
            rw [accW_cons, done_rec, if_neg c1, if_neg c2]; rfl

theorem atom_lit (s : PS) (t : Tk) (h : (t.kind == 2 || t.kind == 3 || t.kind == 4) = true) : s.atom t = some (s.to 3) := by
  unfold PS.atom; rw [if_pos h]
theorem atom_name (s : PS) (t : Tk) (h : t.kind = 1) : s.atom t = if (t.l == wTrue || t.l == wFalse || !rsv t.l) = true then some (s.to 14) else some (s.to 11) := by
  unfold PS.atom; rw [h]; rfl
theorem atom_sgn (s : PS) (t : Tk) (h : t.kind = 5) : s.atom t = if (t.l == [33]) = true then some (s.to 2)
  else if (t.l == [45]) = true then some (s.to 4)
  else if (t.l == [40]) = true then some (s.push 4)
  else if (t.l == [91]) = true then some ((s.push 5).to 12)
  else if (t.l == [123]) = true then some ((s.push 6).to 8)
  else none := by
  unfold PS.atom; rw [h]; rfl

theorem sim_typed {n : Nat} (s : PS) (w : Nat) (hw : w = 14 ∨ w = 11) (t u : Tk) (r : List Tk) (hu : sgn u [58, 58] = true) (hk : AllK r) :
    SimR (acc (s.to w) t (u :: r)) (accA s) st8 (must (fun u => u.kind == 3) r fun v r2 => some (.ok ([mkN 4 0 t.l v.l], r2))) := by
  have e1 : acc (s.to w) t (u :: r) = acc (s.to 7) u r := by
    have : (s.to w).next u t = some (s.to 7) := by
      rcases hw with hw | hw <;> subst hw <;> show (if sgn u [58, 58] = true then _ else _) = _ <;> rw [hu] <;> rfl
    rw [acc_cons, this, off_kind (by rw [(sgn_kind hu).1]; rfl)]; rfl
  rw [e1]
  refine SimR.need ?_ ?_ ?_
  · intro e; subst e; rfl
  · intro v r2 e hv; subst e
    have : (s.to 7).next v u = none := by
      show (if (v.kind == 3) = true then _ else _) = _
      rw [show (v.kind == 3) = false from hv]; rfl
    rw [acc_cons, this]; rfl
  · intro v r2 e hv; subst e
    refine SimR.ok ?_ (fun _ _ _ => rfl) hk.tail
    have hk3 : v.kind = 3 := by simpa using hv
    have : (s.to 7).next v u = some (s.to 3) := by
      show (if (v.kind == 3) = true then (if sgn u [58, 58] = true then _ else _) else _) = _
      rw [show (v.kind == 3) = true from hv, hu]; rfl
    rw [acc_cons, this, off_kind (by rw [hk3]; rfl), stp_some, acc_three]

theorem sim_name {n : Nat} (s : PS) (t : Tk) (r : List Tk) (ht : t.kind = 1) (hk : AllK (t :: r)) (R : Option (Except (Nat × Int) (List Nd × List Tk)))
    (hR : R = if nextS r [58, 58] = true then must (fun u => u.kind == 3) r.tail fun u r2 => some (.ok ([mkN 4 0 t.l u.l], r2))
           else if (t.l == wTrue) = true then some (.ok ([mkN 1 1 [] []], r))
           else if (t.l == wFalse) = true then some (.ok ([mkN 1 0 [] []], r))
           else if rsv t.l = true then some (.error (r.length, 1))
           else some (.ok ([mkN 8 0 t.l []], r))) : SimR (accB s false (t :: r)) (accA s) st8 R := by
  rw [hR, accB_cons, atom_name s t ht, off_kind (by rw [ht]; rfl)]
  by_cases c1 : nextS r [58, 58] = true
  · rw [if_pos c1]
    cases r with
    | nil => cases c1
    | cons u r1 =>
      split
      · rw [stp_some]; exact sim_typed (n := n) s 14 (Or.inl rfl) t u r1 c1 hk.tail.tail
      · rw [stp_some]; exact sim_typed (n := n) s 11 (Or.inr rfl) t u r1 c1 hk.tail.tail
  · rw [if_neg c1]
    have c1' : nextS r [58, 58] = false := by simpa using c1
    by_cases c2 : (t.l == wTrue) = true
    · rw [if_pos c2, if_pos (by rw [c2]; rfl), stp_some]
      exact SimR.ok (acc_name s t r c1') (fun _ _ _ => rfl) hk.tail
    · rw [if_neg c2]
      by_cases c3 : (t.l == wFalse) = true
      · rw [if_pos c3, if_pos (by rw [c3]; simp), stp_some]
        exact SimR.ok (acc_name s t r c1') (fun _ _ _ => rfl) hk.tail
      · rw [if_neg c3]
        by_cases c4 : rsv t.l = true
        · rw [if_pos c4]
          have c2' : (t.l == wTrue) = false := by simpa using c2
          have c3' : (t.l == wFalse) = false := by simpa using c3
          rw [if_neg (by rw [c2', c3', c4]; decide), stp_some]
          refine SimR.err ?_
          cases r with
          | nil => rfl
          | cons u r1 =>
            have hu : sgn u [58, 58] = false := c1'
            have : (s.to 11).next u t = none := by
              show (if sgn u [58, 58] = true then _ else _) = _
              rw [hu]; rfl
            rw [acc_cons, this]; rfl
        · rw [if_neg c4]
          have c4' : rsv t.l = false := by simpa using c4
          rw [if_pos (by rw [c4']; simp), stp_some]
          exact SimR.ok (acc_name s t r c1') (fun _ _ _ => rfl) hk.tail

theorem sim_atom {n : Nat} (h : Sim n) (s : PS) (l : List Tk) (hk : AllK l) (hs : noSign l) : SimR (accB s false l) (accA s) st8 (pE (n + 1) 8 l) := by
  cases l with
  | nil =>
    have e : pE (n + 1) 8 [] = some (.error (0, 1)) := by rw [pE.eq_def]; rfl
    rw [e]; exact SimR.err rfl
  | cons t r =>
    have e : pE (n + 1) 8 (t :: r) = (if (t.kind == 2) = true then (if great t false = true then some (.error (r.length + 1, 5)) else some (.ok ([numN t false], r)))
        else if (t.kind == 3) = true then some (.ok ([mkN 3 0 t.l []], r))
        else if (t.kind == 4) = true then some (.ok ([mkN 8 0 (63 :: t.l) []], r))
        else if (t.kind == 1) = true then
          (if nextS r [58, 58] = true then must (fun u => u.kind == 3) r.tail fun u r2 => some (.ok ([mkN 4 0 t.l u.l], r2))
           else if (t.l == wTrue) = true then some (.ok ([mkN 1 1 [] []], r))
           else if (t.l == wFalse) = true then some (.ok ([mkN 1 0 [] []], r))
           else if rsv t.l = true then some (.error (r.length, 1))
           else some (.ok ([mkN 8 0 t.l []], r)))
        else if (t.l == [45]) = true then must (fun u => u.kind == 2) r fun u r2 => (if great u true = true then some (.error (r2.length + 1, 5)) else some (.ok ([numN u true], r2)))
        else if (t.l == [40]) = true then andR (pE n 0 r) fun a r1 => must (fun u => sgn u [41]) r1 fun _ r2 => some (.ok (a, r2))
        else if (t.l == [91]) = true then (if nextS r [93] = true then some (.ok ([mkN 5 0 [] []], r.tail)) else pS n 0 [] r)
        else if (t.l == [123]) = true then (if nextS r [125] = true then some (.ok ([mkN 6 0 [] []], r.tail)) else pK n 0 [] [] r)
        else some (.error (r.length + 1, 1))) := by rw [pE.eq_def]; rfl
    rw [e]
    have hk0 := hk.head
    unfold kOk at hk0
    simp only [Bool.or_eq_true, beq_iff_eq] at hk0
    rcases hk0 with (((k1 | k1) | k1) | k1) | k1
    · -- a name
      refine sim_name (n := n) s t r k1 hk _ ?_
      rw [k1]; rfl
    · -- a number
      rw [if_pos (by rw [k1]; rfl), accB_cons, atom_lit s t (by rw [k1]; rfl)]
      by_cases g : great t false = true
      · rw [if_pos g, g, k1]; exact SimR.err rfl
      · rw [if_neg g]
        have g' : great t false = false := by simpa using g
        rw [g', k1]
        exact SimR.ok (acc_three s t r) (fun _ _ _ => rfl) hk.tail
    · rw [if_neg (by rw [k1]; decide), if_pos (by rw [k1]; rfl), accB_cons, atom_lit s t (by rw [k1]; rfl), off_kind (by rw [k1]; rfl)]
      exact SimR.ok (acc_three s t r) (fun _ _ _ => rfl) hk.tail
    · rw [if_neg (by rw [k1]; decide), if_neg (by rw [k1]; decide), if_pos (by rw [k1]; rfl), accB_cons, atom_lit s t (by rw [k1]; rfl), off_kind (by rw [k1]; rfl)]
      exact SimR.ok (acc_three s t r) (fun _ _ _ => rfl) hk.tail
    · -- a sign
      obtain ⟨n1, n2⟩ := hs t r rfl
      have n1' : (t.l == [33]) = false := by
        unfold sgn at n1; rw [k1] at n1; exact n1
      rw [if_neg (by rw [k1]; decide), if_neg (by rw [k1]; decide), if_neg (by rw [k1]; decide), if_neg (by rw [k1]; decide), accB_cons, atom_sgn s t k1, off_kind (by rw [k1]; rfl),
        if_neg (by rw [n1']; decide)]
      by_cases c1 : (t.l == [45]) = true
      · rw [if_pos c1, if_pos c1, stp_some]
        have hn : nextNum r = true := n2 (by unfold sgn; rw [k1, c1]; rfl)
        cases r with
        | nil => cases hn
        | cons u r1 =>
          have hu : (u.kind == 2) = true := hn
          refine SimR.need (fun h => by cases h) (fun v r2 e hv => ?_) (fun v r2 e hv => ?_)
          · injection e with e1 e2; subst e1; rw [hu] at hv; cases hv
          · injection e with e1 e2; subst e1 e2
            have ha : (s.to 4).next u t = some (s.to 3) := atom_lit _ _ (by rw [hu]; rfl)
            rw [acc_cons, ha, hu]
            have hw : ((s.to 4).want == 4) = true := rfl
            rw [hw]
            by_cases g : great u true = true
            · rw [if_pos g, g]; exact SimR.err rfl
            · rw [if_neg g]
              have g' : great u true = false := by simpa using g
              rw [g']
              exact SimR.ok (acc_three s u r1) (fun _ _ _ => rfl) hk.tail.tail
      · rw [if_neg c1, if_neg c1]
        by_cases c2 : (t.l == [40]) = true
        · rw [if_pos c2, if_pos c2, stp_some]
          refine SimR.and (h.whole (s.push 4) t r hk.tail rfl) fun b r3 _ g1 => ?_
          refine SimR.need ?_ ?_ ?_
          · intro e; subst e; exact accE_push s 4 rfl
          · intro x r4 e hx; subst e
            rw [accW_cons, done_round, if_neg (by rw [show sgn x [41] = false from hx]; decide)]; rfl
          · intro x r4 e hx; subst e
            refine SimR.ok ?_ (fun _ _ _ => rfl) g1.tail
            rw [accW_cons, done_round, if_pos hx, stp_some, acc_three]
        · rw [if_neg c2, if_neg c2]
          by_cases c3 : (t.l == [91]) = true
          · rw [if_pos c3, if_pos c3, stp_some]
            by_cases c4 : nextS r [93] = true
            · rw [if_pos c4]
              cases r with
              | nil => cases c4
              | cons u r1 =>
                have hu : sgn u [93] = true := c4
                refine SimR.ok ?_ (fun _ _ _ => rfl) hk.tail.tail
                have : ((s.push 5).to 12).next u t = some (s.to 3) := by
                  show (if nam u wIf = true then _ else if (true && sgn u [93]) = true then _ else _) = _
                  rw [sgn_nam hu, hu]; rfl
                rw [acc_cons, this, off_kind (by rw [(sgn_kind hu).1]; rfl), stp_some, acc_three]; rfl
            · rw [if_neg c4, acc_first _ _ _ (by simpa using c4)]
              exact h.sets s t 0 [] r hk.tail
          · rw [if_neg c3, if_neg c3]
            by_cases c5 : (t.l == [123]) = true
            · rw [if_pos c5, if_pos c5, stp_some]
              have ht : sgn t [123] = true := by unfold sgn; rw [k1, c5]; rfl
              by_cases c4 : nextS r [125] = true
              · rw [if_pos c4]
                cases r with
                | nil => cases c4
                | cons u r1 =>
                  have hu : sgn u [125] = true := c4
                  refine SimR.ok ?_ (fun _ _ _ => rfl) hk.tail.tail
                  have : ((s.push 6).to 8).next u t = some (s.to 3) := by
                    show (if (sgn u [125] && sgn t [123]) = true then _ else _) = _
                    rw [ht, hu]; rfl
                  rw [acc_cons, this, off_kind (by rw [(sgn_kind hu).1]; rfl), stp_some, acc_three]; rfl
              · rw [if_neg c4]
                refine h.keys s t 0 [] [] r hk.tail ?_
                intro x r4 e; subst e
                have : sgn x [125] = false := by simpa [nextS] using c4
                rw [this]; rfl
            · rw [if_neg c5, if_neg c5]
              exact SimR.err rfl

theorem sim_all : ∀ n, Sim n
  | 0 => sim_zero
  | n + 1 => by
    have h := sim_all n
    exact ⟨fun s b l hk hh => sim_whole h s b l hk hh, fun s l hk hh => sim_either h s l hk hh, fun s l hk hh => sim_both h s l hk hh, fun s l hk hh => sim_rel h s l hk hh, fun s l hk => sim_sum h s l hk,
      fun s l hk => sim_prod h s l hk, fun s l hk => sim_sign h s l hk, fun s l hk hs => sim_post h s l hk hs, fun s l hk hs => sim_atom h s l hk hs,
      fun s a l hk hs => sim_ors1 h s a l hk hs, fun s a l hk => sim_ands2 h s a l hk, fun s a l hk hs => sim_sums4 h s a l hk hs, fun s a l hk hs => sim_prods5 h s a l hk hs,
      fun s a l hk => sim_posts h s a l hk, fun s b k a l hk => sim_sets h s b k a l hk, fun s b k nm a l hk hb => sim_keys h s b k nm a l hk hb⟩

/-- Where nothing was read yet. -/
def ps0 : PS := ⟨1, [], [false], []⟩
/-- What the words halt at, by the parser. -/
theorem halt_error {n : Nat} {l : List Tk} {b : Tk} {e : Nat × Int} (hk : AllK l) (h : pE n 0 l = some (.error e)) : acc ps0 b l = some e :=
  ((sim_all n).whole ps0 b l hk rfl).1 e h
theorem halt_ok {n : Nat} {l : List Tk} {b : Tk} {a : List Nd} (hk : AllK l) (h : pE n 0 l = some (.ok (a, []))) : acc ps0 b l = none :=
  (((sim_all n).whole ps0 b l hk rfl).2 _ h).1
theorem halt_more {n : Nat} {l r : List Tk} {b t : Tk} {a : List Nd} (hk : AllK l) (h : pE n 0 l = some (.ok (a, t :: r))) : acc ps0 b l = some (r.length + 1, 1) :=
  (((sim_all n).whole ps0 b l hk rfl).2 _ h).1
end Go.Proofs.YtpbnjdgedifnoabGreatDoor
namespace Go.Proofs.YtpbnjdgedifnoabGreatDoor
set_option linter.unusedVariables false

def lftL (l : Nat) : Prop := l = 1 ∨ l = 2 ∨ l = 4 ∨ l = 5
/-- Words of a form, and their nodes: 0 whole, 1 either, 2 both, 3 rel, 4 sum, 5 prod, 6 sign, 7 post, 8 atom; 9 the parts of a set, with their number ahead; 10 the fields of a record, with their number and the last name ahead. -/
inductive Der : Nat → List Tk → List Nd → Prop where
  | ite (t u v : Tk) (a b c : List Tk) (x y z : List Nd) : nam t wIf = true → nam u wThen = true → nam v wElse = true → Der 0 a x → Der 0 b y → Der 0 c z →
      Der 0 (t :: (a ++ u :: (b ++ v :: c))) (opN 13 :: (x ++ (y ++ z)))
  | up (l : Nat) (a : List Tk) (x : List Nd) : l ≤ 7 → Der (l + 1) a x → Der l a x
  | bin (l : Nat) (t : Tk) (a b : List Tk) (x y : List Nd) : lftL l → lvlS l t = true → Der l a x → Der (l + 1) b y → Der l (a ++ t :: b) (opN (opOf t) :: (x ++ y))
  | rel (t : Tk) (a b : List Tk) (x y : List Nd) : relS t = true → Der 4 a x → Der 4 b y → Der 3 (a ++ t :: b) (opN (opOf t) :: (x ++ y))
  | has (t u : Tk) (a : List Tk) (x : List Nd) : hasS t = true → u.kind = 1 → Der 4 a x → Der 3 (a ++ [t, u]) (mkN (if nam t wHas = true then 21 else 24) 0 u.l [] :: x)
  | like (t u : Tk) (a : List Tk) (x : List Nd) : nam t wLike = true → u.kind = 3 → Der 4 a x → Der 3 (a ++ [t, u]) (mkN 23 0 u.l [] :: x)
  | not (t : Tk) (a : List Tk) (x : List Nd) : sgn t [33] = true → Der 6 a x → Der 6 (t :: a) (opN 9 :: x)
  | neg (t : Tk) (a : List Tk) (x : List Nd) : sgn t [45] = true → nextNum a = false → Der 6 a x → Der 6 (t :: a) (opN 10 :: x)
  | get (t u : Tk) (a : List Tk) (x : List Nd) : sgn t [46] = true → u.kind = 1 → Der 7 a x → Der 7 (a ++ [t, u]) (mkN 22 0 u.l [] :: x)
  | call (t u v w : Tk) (a b : List Tk) (x y : List Nd) : sgn t [46] = true → u.kind = 1 → isCall u = true → sgn v [40] = true → sgn w [41] = true → Der 7 a x → Der 0 b y →
      Der 7 (a ++ t :: u :: v :: (b ++ [w])) (opN (callOp u) :: (x ++ y))
  | num (t : Tk) : t.kind = 2 → great t false = false → Der 8 [t] [numN t false]
  | mnum (t u : Tk) : sgn t [45] = true → u.kind = 2 → great u true = false → Der 8 [t, u] [numN u true]
  | text (t : Tk) : t.kind = 3 → Der 8 [t] [mkN 3 0 t.l []]
  | slot (t : Tk) : t.kind = 4 → Der 8 [t] [mkN 8 0 (63 :: t.l) []]
  | ent (t u v : Tk) : t.kind = 1 → sgn u [58, 58] = true → v.kind = 3 → Der 8 [t, u, v] [mkN 4 0 t.l v.l]
  | yes (t : Tk) : nam t wTrue = true → Der 8 [t] [mkN 1 1 [] []]
  | no (t : Tk) : nam t wFalse = true → Der 8 [t] [mkN 1 0 [] []]
  | var (t : Tk) : t.kind = 1 → t.l ≠ wTrue → t.l ≠ wFalse → rsv t.l = false → Der 8 [t] [mkN 8 0 t.l []]
  | round (t u : Tk) (a : List Tk) (x : List Nd) : sgn t [40] = true → sgn u [41] = true → Der 0 a x → Der 8 (t :: (a ++ [u])) x
  | set0 (t u : Tk) : sgn t [91] = true → sgn u [93] = true → Der 8 [t, u] [mkN 5 0 [] []]
  | set (t u : Tk) (a : List Tk) (x : List Nd) : sgn t [91] = true → sgn u [93] = true → Der 9 a x → Der 8 (t :: (a ++ [u])) x
  | rec0 (t u : Tk) : sgn t [123] = true → sgn u [125] = true → Der 8 [t, u] [mkN 6 0 [] []]
  | fields (t u : Tk) (k : Int) (nm : List UInt8) (a : List Tk) (x : List Nd) : sgn t [123] = true → sgn u [125] = true → Der 10 a (mkN 6 k nm [] :: x) → Der 8 (t :: (a ++ [u])) (mkN 6 k [] [] :: x)
  | one (a : List Tk) (x : List Nd) : Der 0 a x → Der 9 a (mkN 5 1 [] [] :: x)
  | more (t : Tk) (k : Int) (a b : List Tk) (x y : List Nd) : sgn t [44] = true → Der 9 a (mkN 5 k [] [] :: x) → Der 0 b y → Der 9 (a ++ t :: b) (mkN 5 (k + 1) [] [] :: (x ++ y))
  | fone (u c : Tk) (b : List Tk) (y : List Nd) : u.kind = 1 → Lib.compareBytes [] u.l < 0 → sgn c [58] = true → Der 0 b y → Der 10 (u :: c :: b) (mkN 6 1 u.l [] :: mkN 7 0 u.l [] :: y)
  | fmore (t u c : Tk) (k : Int) (nm : List UInt8) (a b : List Tk) (x y : List Nd) : comR nm t = true → u.kind = 1 → Lib.compareBytes nm u.l < 0 → sgn c [58] = true →
      Der 10 a (mkN 6 k nm [] :: x) → Der 0 b y → Der 10 (a ++ t :: u :: c :: b) (mkN 6 (k + 1) u.l [] :: (x ++ (mkN 7 0 u.l [] :: y)))

theorem Der.ne {l : Nat} {a : List Tk} {x : List Nd} (h : Der l a x) : a ≠ [] := by
  induction h <;> simp_all
theorem AllK.right {a r : List Tk} (h : AllK (a ++ r)) : AllK r := fun t ht => h t (List.mem_append_right _ ht)
theorem AllK.left {a r : List Tk} (h : AllK (a ++ r)) : AllK a := fun t ht => h t (List.mem_append_left _ ht)

/-- What the parser comes to from these words, if it does, is as Q has it. -/
def SndR (l : List Tk) (Q : List Tk → List Nd → Prop) (R : Option (Except (Nat × Int) (List Nd × List Tk))) : Prop :=
  AllK l → ∀ e r, R = some (.ok (e, r)) → ∃ ts, l = ts ++ r ∧ Q ts e
theorem SndR.none {l : List Tk} {Q : List Tk → List Nd → Prop} : SndR l Q none := fun _ _ _ h => by cases h
theorem SndR.err {l : List Tk} {Q : List Tk → List Nd → Prop} {e : Nat × Int} : SndR l Q (some (.error e)) := fun _ _ _ h => by cases h
theorem SndR.ok {l : List Tk} {Q : List Tk → List Nd → Prop} {x : List Nd} (h : Q [] x) : SndR l Q (some (.ok (x, l))) := fun _ e r he => by
  injection he with he; injection he with he; injection he with h1 h2; subst h1 h2; exact ⟨[], rfl, h⟩
theorem SndR.cons {t : Tk} {r : List Tk} {Q : List Tk → List Nd → Prop} {R : Option (Except (Nat × Int) (List Nd × List Tk))} (h : kOk t = true → SndR r (fun ts e => Q (t :: ts) e) R) : SndR (t :: r) Q R := fun hk e r' he => by
  obtain ⟨ts, h1, h2⟩ := h hk.head hk.tail e r' he
  exact ⟨t :: ts, by rw [h1]; rfl, h2⟩
theorem SndR.and {l : List Tk} {Q1 Q : List Tk → List Nd → Prop} {A : Option (Except (Nat × Int) (List Nd × List Tk))} {f : List Nd → List Tk → Option (Except (Nat × Int) (List Nd × List Tk))}
    (hA : SndR l Q1 A) (hf : ∀ ts a r, Q1 ts a → SndR r (fun us e => Q (ts ++ us) e) (f a r)) : SndR l Q (andR A f) := by
  unfold andR
  match A, hA with
  | Option.none, _ => exact SndR.none
  | some (.error e), hA => exact SndR.err
  | some (.ok x), hA =>
    intro hk e r he
    obtain ⟨ts, h1, h2⟩ := hA hk x.1 x.2 rfl
    rw [h1] at hk
    obtain ⟨us, h3, h4⟩ := hf ts x.1 x.2 h2 hk.right e r he
    exact ⟨ts ++ us, by rw [h1, h3, List.append_assoc], h4⟩
theorem SndR.need {l : List Tk} {Q : List Tk → List Nd → Prop} {p : Tk → Bool} {f : Tk → List Tk → Option (Except (Nat × Int) (List Nd × List Tk))}
    (h : ∀ t r, kOk t = true → p t = true → SndR r (fun us e => Q (t :: us) e) (f t r)) : SndR l Q (must p l f) := by
  unfold must
  cases l with
  | nil => exact SndR.err
  | cons t r =>
    by_cases hp : p t = true
    · simp only [if_pos hp]; exact SndR.cons fun hk => h t r hk hp
    · simp only [if_neg hp]; exact SndR.err
theorem SndR.imp {l : List Tk} {Q Q' : List Tk → List Nd → Prop} {R : Option (Except (Nat × Int) (List Nd × List Tk))} (hq : ∀ ts e, Q ts e → Q' ts e) (h : SndR l Q R) : SndR l Q' R := fun hk e r he => by
  obtain ⟨ts, h1, h2⟩ := h hk e r he; exact ⟨ts, h1, hq _ _ h2⟩

/-- The parts of a set so far, with the , behind them. -/
def setP (k : Nat) (acc : List Nd) (pre : List Tk) : Prop := (k = 0 ∧ acc = [] ∧ pre = []) ∨ ∃ p t, Der 9 p (mkN 5 k [] [] :: acc) ∧ sgn t [44] = true ∧ pre = p ++ [t]
def recP (k : Nat) (nm : List UInt8) (acc : List Nd) (pre : List Tk) : Prop := (k = 0 ∧ nm = [] ∧ acc = [] ∧ pre = []) ∨ ∃ p t, Der 10 p (mkN 6 k nm [] :: acc) ∧ comR nm t = true ∧ pre = p ++ [t]

structure Snd (n : Nat) : Prop where
  E : ∀ lvl l, lvl ≤ 8 → SndR l (Der lvl) (pE n lvl l)
  L : ∀ lvl pre a l, lftL lvl → Der lvl pre a → SndR l (fun ts e => Der lvl (pre ++ ts) e) (pL n lvl a l)
  P : ∀ pre a l, Der 7 pre a → SndR l (fun ts e => Der 7 (pre ++ ts) e) (pP n a l)
  S : ∀ k pre acc l, setP k acc pre → SndR l (fun ts e => ∃ us u, ts = us ++ [u] ∧ sgn u [93] = true ∧ Der 9 (pre ++ us) e) (pS n k acc l)
  K : ∀ k nm pre acc l, recP k nm acc pre → SndR l (fun ts e => ∃ us u k' nm' x, ts = us ++ [u] ∧ sgn u [125] = true ∧ e = mkN 6 k' [] [] :: x ∧ Der 10 (pre ++ us) (mkN 6 k' nm' [] :: x)) (pK n k nm acc l)

theorem snd_zero : Snd 0 := by
  constructor <;> intros <;> (first | rw [pE] | rw [pL] | rw [pP] | rw [pS] | rw [pK]) <;> exact SndR.none

theorem snd_L {n : Nat} (h : Snd n) (lvl : Nat) (pre : List Tk) (a : List Nd) (l : List Tk) (hl : lftL lvl) (hd : Der lvl pre a) : SndR l (fun ts e => Der lvl (pre ++ ts) e) (pL (n + 1) lvl a l) := by
  cases l with
  | nil => rw [pL_nil]; exact SndR.ok (by rw [List.append_nil]; exact hd)
  | cons t r =>
    have e : pL (n + 1) lvl a (t :: r) = if lvlS lvl t = true then andR (pE n (lvl + 1) r) fun b r1 => pL n lvl (opN (opOf t) :: (a ++ b)) r1 else some (.ok (a, t :: r)) := by rw [pL.eq_def]
    rw [e]
    by_cases c : lvlS lvl t = true
    · rw [if_pos c]
      refine SndR.cons fun hk => ?_
      refine SndR.and (h.E (lvl + 1) r (by unfold lftL at hl; omega)) fun ts b r1 hb => ?_
      refine SndR.imp ?_ (h.L lvl (pre ++ t :: ts) _ r1 hl (Der.bin lvl t pre ts a b hl c hd hb))
      intro us e hus
      simpa using hus
    · rw [if_neg c]; exact SndR.ok (by rw [List.append_nil]; exact hd)

theorem snd_P {n : Nat} (h : Snd n) (pre : List Tk) (a : List Nd) (l : List Tk) (hd : Der 7 pre a) : SndR l (fun ts e => Der 7 (pre ++ ts) e) (pP (n + 1) a l) := by
  cases l with
  | nil =>
    have e : pP (n + 1) a [] = some (.ok (a, [])) := by rw [pP.eq_def]
    rw [e]; exact SndR.ok (by rw [List.append_nil]; exact hd)
  | cons t r =>
    by_cases c1 : sgn t [46] = true
    · have e : pP (n + 1) a (t :: r) = must (fun u => u.kind == 1) r fun u r1 =>
        (if (isCall u && nextS r1 [40]) = true then andR (pE n 0 r1.tail) fun b r2 => must (fun v => sgn v [41]) r2 fun _ r3 => pP n (opN (callOp u) :: (a ++ b)) r3
         else pP n (mkN 22 0 u.l [] :: a) r1) := by rw [pP.eq_def]; simp only [c1, if_true]
      rw [e]
      refine SndR.cons fun _ => SndR.need fun u r1 _ hu => ?_
      have hu1 : u.kind = 1 := by simpa using hu
      by_cases c2 : (isCall u && nextS r1 [40]) = true
      · rw [if_pos c2]
        rw [Bool.and_eq_true] at c2
        cases r1 with
        | nil => cases c2.2
        | cons v r2 =>
          refine SndR.cons fun _ => SndR.and (h.E 0 r2 (by omega)) fun ts b r3 hb => SndR.need fun w r4 _ hw => ?_
          refine SndR.imp ?_ (h.P (pre ++ t :: u :: v :: (ts ++ [w])) _ r4 (Der.call t u v w pre ts a b c1 hu1 c2.1 c2.2 hw hd hb))
          intro us e hus
          simpa using hus
      · rw [if_neg c2]
        refine SndR.imp ?_ (h.P (pre ++ [t, u]) _ r1 (Der.get t u pre a c1 hu1 hd))
        intro us e hus
        simpa using hus
    · have e : pP (n + 1) a (t :: r) = some (.ok (a, t :: r)) := by rw [pP.eq_def]; simp only [if_neg c1]
      rw [e]; exact SndR.ok (by rw [List.append_nil]; exact hd)

theorem snd_S {n : Nat} (h : Snd n) (k : Nat) (pre : List Tk) (acc : List Nd) (l : List Tk) (hp : setP k acc pre) :
    SndR l (fun ts e => ∃ us u, ts = us ++ [u] ∧ sgn u [93] = true ∧ Der 9 (pre ++ us) e) (pS (n + 1) k acc l) := by
  have e : pS (n + 1) k acc l = andR (pE n 0 l) fun a' r =>
      match r with
      | [] => some (.error (0, 1))
      | t :: r1 => if sgn t [93] = true then some (.ok (mkN 5 ((k : Int) + 1) [] [] :: (acc ++ a'), r1)) else if sgn t [44] = true then pS n (k + 1) (acc ++ a') r1 else some (.error (r1.length + 1, 1)) := by
    rw [pS.eq_def]; rfl
  rw [e]
  refine SndR.and (h.E 0 l (by omega)) fun ts a' r hd => ?_
  have hn : Der 9 (pre ++ ts) (mkN 5 ((k : Int) + 1) [] [] :: (acc ++ a')) := by
    rcases hp with ⟨h1, h2, h3⟩ | ⟨p, t, h1, h2, h3⟩
    · subst h1 h2 h3; exact Der.one ts a' hd
    · subst h3
      have := Der.more t k p ts acc a' h2 h1 hd
      simpa using this
  cases r with
  | nil => exact SndR.err
  | cons t r1 =>
    simp only
    by_cases c1 : sgn t [93] = true
    · rw [if_pos c1]
      exact SndR.cons fun _ => SndR.ok ⟨ts, t, rfl, c1, hn⟩
    · rw [if_neg c1]
      by_cases c2 : sgn t [44] = true
      · rw [if_pos c2]
        refine SndR.cons fun _ => SndR.imp ?_ (h.S (k + 1) (pre ++ ts ++ [t]) (acc ++ a') r1 (Or.inr ⟨pre ++ ts, t, by simpa using hn, c2, rfl⟩))
        rintro us' e ⟨us, u, h1, h2, h3⟩
        subst h1
        exact ⟨ts ++ t :: us, u, by simp, h2, by simpa using h3⟩
      · rw [if_neg c2]; exact SndR.err

theorem snd_K {n : Nat} (h : Snd n) (k : Nat) (nm : List UInt8) (pre : List Tk) (acc : List Nd) (l : List Tk) (hp : recP k nm acc pre) :
    SndR l (fun ts e => ∃ us u k' nm' x, ts = us ++ [u] ∧ sgn u [125] = true ∧ e = mkN 6 k' [] [] :: x ∧ Der 10 (pre ++ us) (mkN 6 k' nm' [] :: x)) (pK (n + 1) k nm acc l) := by
  have e : pK (n + 1) k nm acc l = must (fun u => u.kind == 1 && decide (Lib.compareBytes nm u.l < 0)) l fun u r0 => must (fun v => sgn v [58]) r0 fun _ r1 =>
      andR (pE n 0 r1) fun a' r =>
        match r with
        | [] => some (.error (0, 1))
        | t :: r2 => if sgn t [125] = true then some (.ok (mkN 6 ((k : Int) + 1) [] [] :: (acc ++ (mkN 7 0 u.l [] :: a')), r2)) else if comR u.l t = true then pK n (k + 1) u.l (acc ++ (mkN 7 0 u.l [] :: a')) r2 else some (.error (r2.length + 1, 1)) := by
    rw [pK.eq_def]; rfl
  rw [e]
  refine SndR.need fun u r0 _ hu => SndR.need fun c r1 _ hc => SndR.and (h.E 0 r1 (by omega)) fun ts a' r hd => ?_
  rw [Bool.and_eq_true] at hu
  have hu1 : u.kind = 1 := by simpa using hu.1
  have hu2 : Lib.compareBytes nm u.l < 0 := of_decide_eq_true hu.2
  have hn : Der 10 (pre ++ u :: c :: ts) (mkN 6 ((k : Int) + 1) u.l [] :: (acc ++ (mkN 7 0 u.l [] :: a'))) := by
    rcases hp with ⟨h1, h2, h3, h4⟩ | ⟨p, t, h1, h2, h3⟩
    · subst h1 h2 h3 h4; exact Der.fone u c ts a' hu1 hu2 hc hd
    · subst h3
      have := Der.fmore t u c k nm p ts acc a' h2 hu1 hu2 hc h1 hd
      simpa using this
  cases r with
  | nil => exact SndR.err
  | cons t r2 =>
    simp only
    by_cases c1 : sgn t [125] = true
    · rw [if_pos c1]
      exact SndR.cons fun _ => SndR.ok ⟨u :: c :: ts, t, _, _, _, by simp, c1, rfl, hn⟩
    · rw [if_neg c1]
      by_cases c2 : comR u.l t = true
      · rw [if_pos c2]
        refine SndR.cons fun _ => SndR.imp ?_ (h.K (k + 1) u.l (pre ++ u :: c :: ts ++ [t]) _ r2 (Or.inr ⟨pre ++ u :: c :: ts, t, by simpa using hn, c2, rfl⟩))
        rintro us' e ⟨us, v, k', nm', x, h1, h2, h3, h4⟩
        subst h1
        exact ⟨u :: c :: (ts ++ t :: us), v, k', nm', x, by simp, h2, h3, by simpa using h4⟩
      · rw [if_neg c2]; exact SndR.err

theorem snd_atom {n : Nat} (h : Snd n) (l : List Tk) : SndR l (Der 8) (pE (n + 1) 8 l) := by
  cases l with
  | nil =>
    have e : pE (n + 1) 8 [] = some (.error (0, 1)) := by rw [pE.eq_def]; rfl
    rw [e]; exact SndR.err
  | cons t r =>
    have e : pE (n + 1) 8 (t :: r) = (if (t.kind == 2) = true then (if great t false = true then some (.error (r.length + 1, 5)) else some (.ok ([numN t false], r)))
        else if (t.kind == 3) = true then some (.ok ([mkN 3 0 t.l []], r))
        else if (t.kind == 4) = true then some (.ok ([mkN 8 0 (63 :: t.l) []], r))
        else if (t.kind == 1) = true then
          (if nextS r [58, 58] = true then must (fun u => u.kind == 3) r.tail fun u r2 => some (.ok ([mkN 4 0 t.l u.l], r2))
           else if (t.l == wTrue) = true then some (.ok ([mkN 1 1 [] []], r))
           else if (t.l == wFalse) = true then some (.ok ([mkN 1 0 [] []], r))
           else if rsv t.l = true then some (.error (r.length, 1))
           else some (.ok ([mkN 8 0 t.l []], r)))
        else if (t.l == [45]) = true then must (fun u => u.kind == 2) r fun u r2 => (if great u true = true then some (.error (r2.length + 1, 5)) else some (.ok ([numN u true], r2)))
        else if (t.l == [40]) = true then andR (pE n 0 r) fun a r1 => must (fun u => sgn u [41]) r1 fun _ r2 => some (.ok (a, r2))
        else if (t.l == [91]) = true then (if nextS r [93] = true then some (.ok ([mkN 5 0 [] []], r.tail)) else pS n 0 [] r)
        else if (t.l == [123]) = true then (if nextS r [125] = true then some (.ok ([mkN 6 0 [] []], r.tail)) else pK n 0 [] [] r)
        else some (.error (r.length + 1, 1))) := by rw [pE.eq_def]; rfl
    rw [e]
    refine SndR.cons fun hk => ?_
    by_cases k2 : (t.kind == 2) = true
    · rw [if_pos k2]
      have k2' : t.kind = 2 := by simpa using k2
      by_cases g : great t false = true
      · rw [if_pos g]; exact SndR.err
      · rw [if_neg g]; exact SndR.ok (Der.num t k2' (by simpa using g))
    rw [if_neg k2]
    by_cases k3 : (t.kind == 3) = true
    · rw [if_pos k3]; exact SndR.ok (Der.text t (by simpa using k3))
    rw [if_neg k3]
    by_cases k4 : (t.kind == 4) = true
    · rw [if_pos k4]; exact SndR.ok (Der.slot t (by simpa using k4))
    rw [if_neg k4]
    by_cases k1 : (t.kind == 1) = true
    · rw [if_pos k1]
      have k1' : t.kind = 1 := by simpa using k1
      by_cases c1 : nextS r [58, 58] = true
      · rw [if_pos c1]
        cases r with
        | nil => cases c1
        | cons u r1 =>
          exact SndR.cons fun _ => SndR.need fun v r2 _ hv => SndR.ok (Der.ent t u v k1' c1 (by simpa using hv))
      · rw [if_neg c1]
        by_cases c2 : (t.l == wTrue) = true
        · rw [if_pos c2]; exact SndR.ok (Der.yes t (by unfold nam; rw [k1, c2]; rfl))
        · rw [if_neg c2]
          by_cases c3 : (t.l == wFalse) = true
          · rw [if_pos c3]; exact SndR.ok (Der.no t (by unfold nam; rw [k1, c3]; rfl))
          · rw [if_neg c3]
            by_cases c4 : rsv t.l = true
            · rw [if_pos c4]; exact SndR.err
            · rw [if_neg c4]; exact SndR.ok (Der.var t k1' (by simpa using c2) (by simpa using c3) (by simpa using c4))
    rw [if_neg k1]
    have k5 : t.kind = 5 := by
      unfold kOk at hk; simp only [Bool.or_eq_true] at hk
      rcases hk with (((h1 | h1) | h1) | h1) | h1
      · exact absurd h1 k1
      · exact absurd h1 k2
      · exact absurd h1 k3
      · exact absurd h1 k4
      · simpa using h1
    have sg : ∀ a : List UInt8, (t.l == a) = true → sgn t a = true := fun a ha => by unfold sgn; rw [k5, ha]; rfl
    by_cases c1 : (t.l == [45]) = true
    · rw [if_pos c1]
      refine SndR.need fun u r2 _ hu => ?_
      by_cases g : great u true = true
      · rw [if_pos g]; exact SndR.err
      · rw [if_neg g]; exact SndR.ok (Der.mnum t u (sg _ c1) (by simpa using hu) (by simpa using g))
    rw [if_neg c1]
    by_cases c2 : (t.l == [40]) = true
    · rw [if_pos c2]
      exact SndR.and (h.E 0 r (by omega)) fun ts a r1 ha => SndR.need fun u r2 _ hu => SndR.ok (Der.round t u ts a (sg _ c2) hu ha)
    rw [if_neg c2]
    by_cases c3 : (t.l == [91]) = true
    · rw [if_pos c3]
      by_cases c4 : nextS r [93] = true
      · rw [if_pos c4]
        cases r with
        | nil => cases c4
        | cons u r1 => exact SndR.cons fun _ => SndR.ok (Der.set0 t u (sg _ c3) c4)
      · rw [if_neg c4]
        refine SndR.imp ?_ (h.S 0 [] [] r (Or.inl ⟨rfl, rfl, rfl⟩))
        rintro us' e ⟨us, u, h1, h2, h3⟩
        subst h1
        exact Der.set t u us e (sg _ c3) h2 h3
    rw [if_neg c3]
    by_cases c5 : (t.l == [123]) = true
    · rw [if_pos c5]
      by_cases c4 : nextS r [125] = true
      · rw [if_pos c4]
        cases r with
        | nil => cases c4
        | cons u r1 => exact SndR.cons fun _ => SndR.ok (Der.rec0 t u (sg _ c5) c4)
      · rw [if_neg c4]
        refine SndR.imp ?_ (h.K 0 [] [] [] r (Or.inl ⟨rfl, rfl, rfl, rfl⟩))
        rintro us' e ⟨us, v, k', nm', x, h1, h2, h3, h4⟩
        subst h1 h3
        exact Der.fields t v k' nm' us x (sg _ c5) h2 h4
    · rw [if_neg c5]; exact SndR.err

theorem snd_all : ∀ n, Snd n
  | 0 => snd_zero
  | n + 1 => by
    have h := snd_all n
    refine ⟨fun lvl l hl => ?_, fun lvl pre a l hl hd => snd_L h lvl pre a l hl hd, fun pre a l hd => snd_P h pre a l hd, fun k pre acc l hp => snd_S h k pre acc l hp, fun k nm pre acc l hp => snd_K h k nm pre acc l hp⟩
    have left : ∀ lvl, lftL lvl → SndR l (Der lvl) (pE (n + 1) lvl l) := by
      intro lvl hl
      have e : pE (n + 1) lvl l = andR (pE n (lvl + 1) l) fun a r => pL n lvl a r := by
        rw [pE.eq_def]
        rcases hl with hl | hl | hl | hl <;> subst hl <;> rfl
      rw [e]
      exact SndR.and (h.E (lvl + 1) l (by unfold lftL at hl; omega)) fun ts a r ha => h.L lvl ts a r hl (Der.up lvl ts a (by unfold lftL at hl; omega) ha)
    match lvl, hl with
    | 0, _ =>
      cases l with
      | nil =>
        have e : pE (n + 1) 0 [] = pE n 1 [] := by rw [pE.eq_def]; rfl
        rw [e]; exact SndR.imp (fun ts e hd => Der.up 0 ts e (by omega) hd) (h.E 1 [] (by omega))
      | cons t r =>
        by_cases c : (nam t wIf && !nextS r [58, 58]) = true
        · have e : pE (n + 1) 0 (t :: r) = andR (pE n 0 r) fun a r1 => must (fun u => nam u wThen) r1 fun _ r2 => andR (pE n 0 r2) fun b r3 => must (fun u => nam u wElse) r3 fun _ r4 =>
            andR (pE n 0 r4) fun c r5 => some (.ok (opN 13 :: (a ++ (b ++ c)), r5)) := by
            rw [pE.eq_def]; simp only [if_true, c]
          rw [e]
          rw [Bool.and_eq_true] at c
          refine SndR.cons fun _ => SndR.and (h.E 0 r (by omega)) fun ts a r1 ha => SndR.need fun u r2 _ hu => SndR.and (h.E 0 r2 (by omega)) fun us b r3 hb => SndR.need fun v r4 _ hv =>
            SndR.and (h.E 0 r4 (by omega)) fun vs z r5 hz => SndR.ok ?_
          simpa using Der.ite t u v ts us vs a b z c.1 hu hv ha hb hz
        · have e : pE (n + 1) 0 (t :: r) = pE n 1 (t :: r) := by rw [pE.eq_def]; simp only [if_true, if_neg c]
          rw [e]; exact SndR.imp (fun ts e hd => Der.up 0 ts e (by omega) hd) (h.E 1 _ (by omega))
    | 1, _ => exact left 1 (Or.inl rfl)
    | 2, _ => exact left 2 (Or.inr (Or.inl rfl))
    | 3, _ =>
      have e : pE (n + 1) 3 l = andR (pE n 4 l) fun a r =>
        match r with
        | [] => some (.ok (a, []))
        | t :: r1 =>
          if relS t = true then andR (pE n 4 r1) fun b r2 => some (.ok (opN (opOf t) :: (a ++ b), r2))
          else if hasS t = true then must (fun u => u.kind == 1) r1 fun u r2 => some (.ok (mkN (if nam t wHas = true then 21 else 24) 0 u.l [] :: a, r2))
          else if nam t wLike = true then must (fun u => u.kind == 3) r1 fun u r2 => some (.ok (mkN 23 0 u.l [] :: a, r2))
          else some (.ok (a, t :: r1)) := by rw [pE.eq_def]; rfl
      rw [e]
      refine SndR.and (h.E 4 l (by omega)) fun ts a r ha => ?_
      have hup : Der 3 (ts ++ []) a := by rw [List.append_nil]; exact Der.up 3 ts a (by omega) ha
      cases r with
      | nil => exact SndR.ok hup
      | cons t r1 =>
        simp only
        by_cases c1 : relS t = true
        · rw [if_pos c1]
          exact SndR.cons fun _ => SndR.and (h.E 4 r1 (by omega)) fun us b r2 hb => SndR.ok (by simpa using Der.rel t ts us a b c1 ha hb)
        · rw [if_neg c1]
          by_cases c2 : hasS t = true
          · rw [if_pos c2]
            exact SndR.cons fun _ => SndR.need fun u r2 _ hu => SndR.ok (Der.has t u ts a c2 (by simpa using hu) ha)
          · rw [if_neg c2]
            by_cases c3 : nam t wLike = true
            · rw [if_pos c3]
              exact SndR.cons fun _ => SndR.need fun u r2 _ hu => SndR.ok (Der.like t u ts a c3 (by simpa using hu) ha)
            · rw [if_neg c3]; exact SndR.ok hup
    | 4, _ => exact left 4 (Or.inr (Or.inr (Or.inl rfl)))
    | 5, _ => exact left 5 (Or.inr (Or.inr (Or.inr rfl)))
    | 6, _ =>
      cases l with
      | nil =>
        have e : pE (n + 1) 6 [] = pE n 7 [] := by rw [pE.eq_def]; rfl
        rw [e]; exact SndR.imp (fun ts e hd => Der.up 6 ts e (by omega) hd) (h.E 7 [] (by omega))
      | cons t r =>
        by_cases c1 : sgn t [33] = true
        · have e : pE (n + 1) 6 (t :: r) = andR (pE n 6 r) fun a r1 => some (.ok (opN 9 :: a, r1)) := by rw [pE.eq_def]; simp [c1]
          rw [e]
          exact SndR.cons fun _ => SndR.and (h.E 6 r (by omega)) fun ts a r1 ha => SndR.ok (by simpa using Der.not t ts a c1 ha)
        · by_cases c2 : (sgn t [45] && !nextNum r) = true
          · have e : pE (n + 1) 6 (t :: r) = andR (pE n 6 r) fun a r1 => some (.ok (opN 10 :: a, r1)) := by rw [pE.eq_def]; simp [c1, c2]
            rw [e]
            rw [Bool.and_eq_true] at c2
            intro hk e' r' he
            have : SndR (t :: r) (fun ts x => ∃ us y, ts = t :: us ∧ x = opN 10 :: y ∧ Der 6 us y) (andR (pE n 6 r) fun a r1 => some (.ok (opN 10 :: a, r1))) :=
              SndR.cons fun _ => SndR.and (h.E 6 r (by omega)) fun ts a r1 ha => SndR.ok ⟨ts, a, by simp, rfl, ha⟩
            obtain ⟨ts, h1, us, y, h2, h3, h4⟩ := this hk e' r' he
            refine ⟨ts, h1, ?_⟩
            subst h2 h3
            refine Der.neg t us y c2.1 ?_ h4
            cases us with
            | nil => exact absurd rfl h4.ne
            | cons u us =>
              injection h1 with _ h1
              rw [h1] at c2
              simpa [nextNum] using c2.2
          · have e : pE (n + 1) 6 (t :: r) = pE n 7 (t :: r) := by rw [pE.eq_def]; simp [c1, c2]
            rw [e]; exact SndR.imp (fun ts e hd => Der.up 6 ts e (by omega) hd) (h.E 7 _ (by omega))
    | 7, _ =>
      have e : pE (n + 1) 7 l = andR (pE n 8 l) fun a r => pP n a r := by rw [pE.eq_def]; rfl
      rw [e]
      exact SndR.and (h.E 8 l (by omega)) fun ts a r ha => h.P ts a r (Der.up 7 ts a (by omega) ha)
    | 8, _ => exact snd_atom h l
end Go.Proofs.YtpbnjdgedifnoabGreatDoor
namespace Go.Proofs.YtpbnjdgedifnoabGreatDoor
set_option linter.unusedVariables false

abbrev PR := Option (Except (Nat × Int) (List Nd × List Tk))
/-- What one comes to, the other one does. -/
def Ple (A B : PR) : Prop := ∀ x, A = some x → B = some x
theorem Ple.refl (A : PR) : Ple A A := fun _ h => h
theorem Ple.none (B : PR) : Ple Option.none B := fun _ h => by cases h
theorem Ple.ite {c : Prop} [Decidable c] {A A' B B' : PR} (h1 : Ple A A') (h2 : Ple B B') : Ple (if c then A else B) (if c then A' else B') := by
  split
  · exact h1
  · exact h2
theorem Ple.and {A A' : PR} {f f' : List Nd → List Tk → PR} (h1 : Ple A A') (h2 : ∀ a r, Ple (f a r) (f' a r)) : Ple (andR A f) (andR A' f') := by
  intro x hx
  unfold andR at hx
  match A, h1, hx with
  | Option.none, _, hx => cases hx
  | some (.error e), h1, hx => unfold andR; rw [h1 _ rfl]; exact hx
  | some (.ok y), h1, hx => unfold andR; rw [h1 _ rfl]; exact h2 _ _ _ hx
theorem Ple.must {p : Tk → Bool} {l : List Tk} {f f' : Tk → List Tk → PR} (h : ∀ t r, Ple (f t r) (f' t r)) : Ple (must p l f) (must p l f') := by
  unfold Go.Proofs.YtpbnjdgedifnoabGreatDoor.must
  cases l with
  | nil => exact Ple.refl _
  | cons t r => exact Ple.ite (h t r) (Ple.refl _)

structure Mono (n m : Nat) : Prop where
  E : ∀ lvl l, Ple (pE n lvl l) (pE m lvl l)
  L : ∀ lvl a l, Ple (pL n lvl a l) (pL m lvl a l)
  P : ∀ a l, Ple (pP n a l) (pP m a l)
  S : ∀ k acc l, Ple (pS n k acc l) (pS m k acc l)
  K : ∀ k nm acc l, Ple (pK n k nm acc l) (pK m k nm acc l)

theorem mono_all : ∀ n m, n ≤ m → Mono n m
  | 0, m, _ => by constructor <;> intros <;> (first | rw [pE] | rw [pL] | rw [pP] | rw [pS] | rw [pK]) <;> exact Ple.none _
  | n + 1, 0, h => absurd h (by omega)
  | n + 1, m + 1, h => by
    have ih := mono_all n m (by omega)
    constructor
    · intro lvl l
      rw [pE.eq_def, pE.eq_def]
      simp only
      refine Ple.ite ?_ (Ple.ite ?_ (Ple.ite ?_ (Ple.ite ?_ (Ple.ite ?_ ?_))))
      · cases l with
        | nil => exact ih.E _ _
        | cons t r =>
          exact Ple.ite (Ple.and (ih.E _ _) fun a r1 => Ple.must fun _ r2 => Ple.and (ih.E _ _) fun b r3 => Ple.must fun _ r4 => Ple.and (ih.E _ _) fun c r5 => Ple.refl _) (ih.E _ _)
      · exact Ple.and (ih.E _ _) fun a r => ih.L _ _ _
      · refine Ple.and (ih.E _ _) fun a r => ?_
        cases r with
        | nil => exact Ple.refl _
        | cons t r1 => exact Ple.ite (Ple.and (ih.E _ _) fun b r2 => Ple.refl _) (Ple.refl _)
      · cases l with
        | nil => exact ih.E _ _
        | cons t r => exact Ple.ite (Ple.and (ih.E _ _) fun a r1 => Ple.refl _) (Ple.ite (Ple.and (ih.E _ _) fun a r1 => Ple.refl _) (ih.E _ _))
      · exact Ple.and (ih.E _ _) fun a r => ih.P _ _
      · cases l with
        | nil => exact Ple.refl _
        | cons t r =>
          refine Ple.ite (Ple.refl _) (Ple.ite (Ple.refl _) (Ple.ite (Ple.refl _) (Ple.ite (Ple.refl _) (Ple.ite (Ple.refl _) (Ple.ite ?_ (Ple.ite ?_ (Ple.ite ?_ (Ple.refl _))))))))
          · exact Ple.and (ih.E _ _) fun a r1 => Ple.refl _
          · exact Ple.ite (Ple.refl _) (ih.S _ _ _)
          · exact Ple.ite (Ple.refl _) (ih.K _ _ _ _)
    · intro lvl a l
      rw [pL.eq_def, pL.eq_def]
      cases l with
      | nil => exact Ple.refl _
      | cons t r => exact Ple.ite (Ple.and (ih.E _ _) fun b r1 => ih.L _ _ _) (Ple.refl _)
    · intro a l
      rw [pP.eq_def, pP.eq_def]
      cases l with
      | nil => exact Ple.refl _
      | cons t r => exact Ple.ite (Ple.must fun u r1 => Ple.ite (Ple.and (ih.E _ _) fun b r2 => Ple.must fun _ r3 => ih.P _ _) (ih.P _ _)) (Ple.refl _)
    · intro k acc l
      rw [pS.eq_def, pS.eq_def]
      refine Ple.and (ih.E _ _) fun a r => ?_
      cases r with
      | nil => exact Ple.refl _
      | cons t r1 => exact Ple.ite (Ple.refl _) (Ple.ite (ih.S _ _ _) (Ple.refl _))
    · intro k nm acc l
      rw [pK.eq_def, pK.eq_def]
      refine Ple.must fun u r0 => Ple.must fun _ r1 => Ple.and (ih.E _ _) fun a r => ?_
      cases r with
      | nil => exact Ple.refl _
      | cons t r1 => exact Ple.ite (Ple.refl _) (Ple.ite (ih.K _ _ _ _) (Ple.refl _))

/-- It comes to something, and what is left is no longer than so. -/
def Fin (m : Nat) (A : PR) : Prop := A ≠ none ∧ ∀ e r, A = some (.ok (e, r)) → r.length ≤ m
theorem Fin.err {m : Nat} {e : Nat × Int} : Fin m (some (.error e)) := ⟨by simp, fun _ _ h => by cases h⟩
theorem Fin.ok {m : Nat} {e : List Nd} {r : List Tk} (h : r.length ≤ m) : Fin m (some (.ok (e, r))) := ⟨by simp, fun e' r' h' => by
  injection h' with h'; injection h' with h'; injection h' with _ h'; subst h'; exact h⟩
theorem Fin.ite {m : Nat} {c : Prop} [Decidable c] {A B : PR} (h1 : c → Fin m A) (h2 : ¬c → Fin m B) : Fin m (if c then A else B) := by
  split
  · exact h1 (by assumption)
  · exact h2 (by assumption)
theorem Fin.and {m k : Nat} {A : PR} {f : List Nd → List Tk → PR} (h1 : Fin k A) (h2 : ∀ a r, r.length ≤ k → Fin m (f a r)) : Fin m (andR A f) := by
  unfold andR
  match A, h1 with
  | Option.none, h1 => exact absurd rfl h1.1
  | some (.error e), _ => exact Fin.err
  | some (.ok y), h1 => exact h2 _ _ (h1.2 y.1 y.2 rfl)
theorem Fin.must {m : Nat} {p : Tk → Bool} {l : List Tk} {f : Tk → List Tk → PR} (h : ∀ t r, l.length = r.length + 1 → Fin m (f t r)) : Fin m (must p l f) := by
  unfold Go.Proofs.YtpbnjdgedifnoabGreatDoor.must
  cases l with
  | nil => exact Fin.err
  | cons t r => exact Fin.ite (fun _ => h t r rfl) (fun _ => Fin.err)
theorem Fin.le {m k : Nat} {A : PR} (h : Fin k A) (hk : k ≤ m) : Fin m A := ⟨h.1, fun e r he => Nat.le_trans (h.2 e r he) hk⟩

/-- With enough fuel. -/
structure Enough (n : Nat) : Prop where
  E : ∀ lvl l, lvl ≤ 8 → 10 * l.length + 10 ≤ n + lvl → Fin (l.length - 1) (pE n lvl l)
  L : ∀ lvl a l, lftL lvl → 10 * l.length + 1 ≤ n → Fin l.length (pL n lvl a l)
  P : ∀ a l, 10 * l.length + 1 ≤ n → Fin l.length (pP n a l)
  S : ∀ k acc l, 10 * l.length + 11 ≤ n → Fin l.length (pS n k acc l)
  K : ∀ k nm acc l, 10 * l.length + 1 ≤ n → Fin l.length (pK n k nm acc l)

theorem tail_len (l : List Tk) : l.tail.length = l.length - 1 := by cases l <;> simp

theorem enough_all : ∀ n, Enough n
  | 0 => by constructor <;> intros <;> exfalso <;> omega
  | n + 1 => by
    have ih := enough_all n
    constructor
    · intro lvl l hl hn
      cases l with
      | nil =>
        rw [pE.eq_def]
        simp only
        refine Fin.ite (fun h0 => ?_) fun h0 => Fin.ite (fun h1 => ?_) fun h1 => Fin.ite (fun h3 => ?_) fun h3 => Fin.ite (fun h6 => ?_) fun h6 => Fin.ite (fun h7 => ?_) fun h7 => ?_
        · exact ih.E 1 [] (by omega) (by simp at hn ⊢; omega)
        · refine Fin.and (k := 0) (ih.E (lvl + 1) [] (by omega) (by simp at hn ⊢; omega)) fun a r hr => Fin.le (ih.L lvl a r h1 (by simp at hn; omega)) hr
        · refine Fin.and (k := 0) (ih.E 4 [] (by omega) (by simp at hn ⊢; omega)) fun a r hr => ?_
          cases r with
          | nil => exact Fin.ok (by simp)
          | cons t r1 => simp at hr
        · exact ih.E 7 [] (by omega) (by simp at hn ⊢; omega)
        · refine Fin.and (k := 0) (ih.E 8 [] (by omega) (by simp at hn ⊢; omega)) fun a r hr => Fin.le (ih.P a r (by simp at hn; omega)) hr
        · exact Fin.err
      | cons t r =>
        simp only [List.length_cons] at hn ⊢
        have hm : r.length + 1 - 1 = r.length := rfl
        rw [hm, pE.eq_def]
        simp only
        refine Fin.ite (fun h0 => ?_) fun h0 => Fin.ite (fun h1 => ?_) fun h1 => Fin.ite (fun h3 => ?_) fun h3 => Fin.ite (fun h6 => ?_) fun h6 => Fin.ite (fun h7 => ?_) fun h7 => ?_
        · refine Fin.ite (fun _ => ?_) fun _ => ih.E 1 (t :: r) (by omega) (by simp only [List.length_cons]; omega)
          refine Fin.and (ih.E 0 r (by omega) (by omega)) fun a r1 h1 => Fin.must fun _ r2 h2 => Fin.and (ih.E 0 r2 (by omega) (by omega)) fun b r3 h3 => Fin.must fun _ r4 h4 =>
            Fin.and (ih.E 0 r4 (by omega) (by omega)) fun c r5 h5 => Fin.ok (by omega)
        · exact Fin.and (ih.E (lvl + 1) (t :: r) (by omega) (by simp only [List.length_cons]; omega)) fun a r' hr => Fin.le (ih.L lvl a r' h1 (by simp only [List.length_cons] at hr; omega)) hr
        · refine Fin.and (ih.E 4 (t :: r) (by omega) (by simp only [List.length_cons]; omega)) fun a r' hr => ?_
          simp only [List.length_cons] at hr
          cases r' with
          | nil => exact Fin.ok (by simp)
          | cons u r1 =>
            simp only [List.length_cons] at hr
            refine Fin.ite (fun _ => ?_) fun _ => Fin.ite (fun _ => ?_) fun _ => Fin.ite (fun _ => ?_) fun _ => Fin.ok (by simp only [List.length_cons]; omega)
            · exact Fin.and (ih.E 4 r1 (by omega) (by omega)) fun b r2 h2 => Fin.ok (by omega)
            · exact Fin.must fun v r2 h2 => Fin.ok (by omega)
            · exact Fin.must fun v r2 h2 => Fin.ok (by omega)
        · refine Fin.ite (fun _ => ?_) fun _ => Fin.ite (fun _ => ?_) fun _ => ih.E 7 (t :: r) (by omega) (by simp only [List.length_cons]; omega)
          · exact Fin.and (ih.E 6 r (by omega) (by omega)) fun a r1 h1 => Fin.ok (by omega)
          · exact Fin.and (ih.E 6 r (by omega) (by omega)) fun a r1 h1 => Fin.ok (by omega)
        · exact Fin.and (ih.E 8 (t :: r) (by omega) (by simp only [List.length_cons]; omega)) fun a r' hr => Fin.le (ih.P a r' (by simp only [List.length_cons] at hr; omega)) hr
        · have ht := tail_len r
          refine Fin.ite (fun _ => Fin.ite (fun _ => Fin.err) fun _ => Fin.ok (by omega)) fun _ => Fin.ite (fun _ => Fin.ok (by omega)) fun _ => Fin.ite (fun _ => Fin.ok (by omega)) fun _ => Fin.ite (fun _ => ?_) fun _ =>
            Fin.ite (fun _ => ?_) fun _ => Fin.ite (fun _ => ?_) fun _ => Fin.ite (fun _ => ?_) fun _ => Fin.ite (fun _ => ?_) fun _ => Fin.err
          · refine Fin.ite (fun _ => Fin.must fun u r2 h2 => Fin.ok (by omega)) fun _ => Fin.ite (fun _ => Fin.ok (by omega)) fun _ => Fin.ite (fun _ => Fin.ok (by omega)) fun _ => Fin.ite (fun _ => Fin.err) fun _ => Fin.ok (by omega)
          · exact Fin.must fun u r2 h2 => Fin.ite (fun _ => Fin.err) fun _ => Fin.ok (by omega)
          · exact Fin.and (ih.E 0 r (by omega) (by omega)) fun a r1 h1 => Fin.must fun u r2 h2 => Fin.ok (by omega)
          · exact Fin.ite (fun _ => Fin.ok (by omega)) fun _ => ih.S 0 [] r (by omega)
          · exact Fin.ite (fun _ => Fin.ok (by omega)) fun _ => ih.K 0 [] [] r (by omega)
    · intro lvl a l hl hn
      rw [pL.eq_def]
      cases l with
      | nil => exact Fin.ok (by simp)
      | cons t r =>
        simp only [List.length_cons] at hn ⊢
        have hl' : lvl ≤ 5 ∧ 1 ≤ lvl := by unfold lftL at hl; omega
        refine Fin.ite (fun _ => ?_) fun _ => Fin.ok (by simp)
        exact Fin.and (ih.E (lvl + 1) r (by omega) (by omega)) fun b r1 h1 => Fin.le (ih.L lvl _ r1 hl (by omega)) (by omega)
    · intro a l hn
      rw [pP.eq_def]
      cases l with
      | nil => exact Fin.ok (by simp)
      | cons t r =>
        simp only [List.length_cons] at hn ⊢
        refine Fin.ite (fun _ => Fin.must fun u r1 h1 => ?_) fun _ => Fin.ok (by simp)
        have ht := tail_len r1
        refine Fin.ite (fun _ => ?_) fun _ => Fin.le (ih.P _ r1 (by omega)) (by omega)
        exact Fin.and (ih.E 0 r1.tail (by omega) (by omega)) fun b r2 h2 => Fin.must fun _ r3 h3 => Fin.le (ih.P _ r3 (by omega)) (by omega)
    · intro k acc l hn
      rw [pS.eq_def]
      refine Fin.and (ih.E 0 l (by omega) (by omega)) fun a r hr => ?_
      cases r with
      | nil => exact Fin.err
      | cons t r1 =>
        simp only [List.length_cons] at hr
        exact Fin.ite (fun _ => Fin.ok (by omega)) fun _ => Fin.ite (fun _ => Fin.le (ih.S _ _ r1 (by omega)) (by omega)) fun _ => Fin.err
    · intro k nm acc l hn
      rw [pK.eq_def]
      refine Fin.must fun u r0 h0 => Fin.must fun _ r1 h1 => Fin.and (ih.E 0 r1 (by omega) (by omega)) fun a r hr => ?_
      cases r with
      | nil => exact Fin.err
      | cons t r2 =>
        simp only [List.length_cons] at hr
        exact Fin.ite (fun _ => Fin.ok (by omega)) fun _ => Fin.ite (fun _ => Fin.le (ih.K _ _ _ r2 (by omega)) (by omega)) fun _ => Fin.err

/-- The parser, with enough fuel. -/
def prs (l : List Tk) : Except (Nat × Int) (List Nd × List Tk) := match pE (10 * l.length + 10) 0 l with | some x => x | none => .error (0, 1)
theorem prs_any {n : Nat} {l : List Tk} (hn : 10 * l.length + 10 ≤ n) : pE n 0 l = some (prs l) := by
  have h := (enough_all (10 * l.length + 10)).E 0 l (by omega) (by omega)
  have hm := (mono_all (10 * l.length + 10) n hn).E 0 l
  have e : pE (10 * l.length + 10) 0 l = some (prs l) := by
    unfold prs
    cases he : pE (10 * l.length + 10) 0 l with
    | none => exact absurd he h.1
    | some x => rfl
  exact hm _ e
theorem prs_of {n : Nat} {l : List Tk} {x : Except (Nat × Int) (List Nd × List Tk)} (h : pE n 0 l = some x) : prs l = x := by
  have h1 := (mono_all n (n + (10 * l.length + 10)) (by omega)).E 0 l _ h
  rw [prs_any (by omega)] at h1
  injection h1
end Go.Proofs.YtpbnjdgedifnoabGreatDoor
namespace Go.Proofs.YtpbnjdgedifnoabGreatDoor
set_option linter.unusedVariables false

abbrev ER := Except (Nat × Int) (List Nd × List Tk)
def Run (lvl : Nat) (l : List Tk) (x : ER) : Prop := ∃ n, pE n lvl l = some x
def RunL (lvl : Nat) (a : List Nd) (l : List Tk) (x : ER) : Prop := ∃ n, pL n lvl a l = some x
def RunP (a : List Nd) (l : List Tk) (x : ER) : Prop := ∃ n, pP n a l = some x
def RunS (k : Nat) (a : List Nd) (l : List Tk) (x : ER) : Prop := ∃ n, pS n k a l = some x
def RunK (k : Nat) (nm : List UInt8) (a : List Nd) (l : List Tk) (x : ER) : Prop := ∃ n, pK n k nm a l = some x

theorem sgn_eq {t : Tk} {a : List UInt8} (h : sgn t a = true) (b : List UInt8) : sgn t b = (a == b) := by
  obtain ⟨h1, h2⟩ := sgn_kind h
  unfold sgn; rw [h1, h2]; rfl
theorem nam_eq {t : Tk} {a : List UInt8} (h : nam t a = true) (b : List UInt8) : nam t b = (a == b) := by
  obtain ⟨h1, h2⟩ := nam_kind h
  unfold nam; rw [h1, h2]; rfl

/-- A word that goes on with a form of a level, or of one above. -/
def bad (lvl : Nat) (t : Tk) : Bool :=
  sgn t [58, 58] || sgn t [40] || (decide (lvl ≤ 7) && sgn t [46]) || (decide (lvl ≤ 5) && sgn t [42]) || (decide (lvl ≤ 4) && sumS t) ||
    (decide (lvl ≤ 3) && (relS t || hasS t || nam t wLike)) || (decide (lvl ≤ 2) && ands t) || (decide (lvl ≤ 1) && ors t)
def good (lvl : Nat) (r : List Tk) : Prop := ∀ t r', r = t :: r' → bad lvl t = false
theorem good_nil (lvl : Nat) : good lvl [] := fun _ _ h => by cases h
theorem good_cons {lvl : Nat} {t : Tk} {r : List Tk} (h : bad lvl t = false) : good lvl (t :: r) := fun t' r' e => by injection e with e _; rw [← e]; exact h
theorem bad_up {l m : Nat} {t : Tk} (h : l ≤ m) (hb : bad l t = false) : bad m t = false := by
  unfold bad at hb ⊢
  simp only [Bool.or_eq_false_iff, Bool.and_eq_false_iff, decide_eq_false_iff_not] at hb ⊢
  obtain ⟨⟨⟨⟨⟨⟨⟨h1, h2⟩, h3⟩, h4⟩, h5⟩, h6⟩, h7⟩, h8⟩ := hb
  exact ⟨⟨⟨⟨⟨⟨⟨h1, h2⟩, h3.imp (by omega) id⟩, h4.imp (by omega) id⟩, h5.imp (by omega) id⟩, h6.imp (by omega) id⟩, h7.imp (by omega) id⟩, h8.imp (by omega) id⟩
theorem good_up {l m : Nat} {r : List Tk} (h : l ≤ m) (hg : good l r) : good m r := fun t r' e => bad_up h (hg t r' e)
theorem bad_sgn {t : Tk} {a : List UInt8} (h : sgn t a = true) (l : Nat) : bad l t =
    ((a == [58, 58]) || (a == [40]) || (decide (l ≤ 7) && (a == [46])) || (decide (l ≤ 5) && (a == [42])) || (decide (l ≤ 4) && ((a == [43]) || (a == [45]))) ||
    (decide (l ≤ 3) && ((a == [61, 61]) || (a == [60]) || (a == [60, 61]))) || (decide (l ≤ 2) && (a == [38, 38])) || (decide (l ≤ 1) && (a == [124, 124]))) := by
  unfold bad sumS relS hasS ands ors
  simp only [sgn_eq h, sgn_nam h, Bool.or_false]
theorem bad_nam {t : Tk} {a : List UInt8} (h : nam t a = true) (l : Nat) : bad l t = (decide (l ≤ 3) && ((a == wIn) || ((a == wHas) || (a == wIs)) || (a == wLike))) := by
  unfold bad sumS relS hasS ands ors
  simp only [nam_eq h, nam_sgn h, Bool.or_false, Bool.false_or, Bool.and_false]
theorem good_sgn {t : Tk} {a : List UInt8} {l : Nat} {r : List Tk} (h : sgn t a = true)
    (h' : ((a == [58, 58]) || (a == [40]) || (decide (l ≤ 7) && (a == [46])) || (decide (l ≤ 5) && (a == [42])) || (decide (l ≤ 4) && ((a == [43]) || (a == [45]))) ||
    (decide (l ≤ 3) && ((a == [61, 61]) || (a == [60]) || (a == [60, 61]))) || (decide (l ≤ 2) && (a == [38, 38])) || (decide (l ≤ 1) && (a == [124, 124]))) = false) : good l (t :: r) :=
  good_cons (by rw [bad_sgn h]; exact h')
theorem good_nam {t : Tk} {a : List UInt8} {l : Nat} {r : List Tk} (h : nam t a = true) (h' : (decide (l ≤ 3) && ((a == wIn) || ((a == wHas) || (a == wIs)) || (a == wLike))) = false) : good l (t :: r) :=
  good_cons (by rw [bad_nam h]; exact h')
theorem good_lvl {l : Nat} {t : Tk} {r : List Tk} (hl : lftL l) (h : lvlS l t = true) : good (l + 1) (t :: r) := by
  rcases hl with hl | hl | hl | hl <;> subst hl
  · exact good_sgn (a := [124, 124]) h (by decide)
  · exact good_sgn (a := [38, 38]) h (by decide)
  · have h' : sumS t = true := h
    unfold sumS at h'; rw [Bool.or_eq_true] at h'
    rcases h' with h' | h'
    · exact good_sgn h' (by decide)
    · exact good_sgn h' (by decide)
  · exact good_sgn (a := [42]) h (by decide)
theorem good_rel {t : Tk} {r : List Tk} (h : relS t = true) : good 4 (t :: r) := by
  unfold relS at h; simp only [Bool.or_eq_true] at h
  rcases h with ((h | h) | h) | h
  · exact good_sgn h (by decide)
  · exact good_sgn h (by decide)
  · exact good_sgn h (by decide)
  · exact good_nam h (by decide)
theorem good_has {t : Tk} {r : List Tk} (h : hasS t = true) : good 4 (t :: r) ∧ relS t = false := by
  unfold hasS at h; rw [Bool.or_eq_true] at h
  rcases h with h | h
  · exact ⟨good_nam h (by decide), by unfold relS; simp only [nam_sgn h, nam_eq h]; decide⟩
  · exact ⟨good_nam h (by decide), by unfold relS; simp only [nam_sgn h, nam_eq h]; decide⟩
theorem good_like {t : Tk} {r : List Tk} (h : nam t wLike = true) : good 4 (t :: r) ∧ relS t = false ∧ hasS t = false :=
  ⟨good_nam h (by decide), by unfold relS; simp only [nam_sgn h, nam_eq h]; decide, by unfold hasS; simp only [nam_eq h]; decide⟩

/-- How what is of a form begins. -/
def Fst (l : Nat) (ts : List Tk) : Prop := ∃ t r, ts = t :: r ∧ sgn t [58, 58] = false ∧ sgn t [93] = false ∧ sgn t [125] = false ∧ (1 ≤ l → l ≤ 8 → nam t wIf = true → nextS r [58, 58] = true) ∧
  (7 ≤ l → l ≤ 8 → sgn t [33] = false ∧ (sgn t [45] = true → nextNum r = true))
theorem nextS_append {r b : List Tk} {s : List UInt8} (h : nextS r s = true) : nextS (r ++ b) s = true := by
  cases r with
  | nil => cases h
  | cons t r => exact h
theorem nextNum_append {r b : List Tk} (h : nextNum r = true) : nextNum (r ++ b) = true := by
  cases r with
  | nil => cases h
  | cons t r => exact h
theorem nextNum_left {r b : List Tk} (h : r ≠ []) : nextNum (r ++ b) = nextNum r := by
  cases r with
  | nil => exact absurd rfl h
  | cons t r => rfl
theorem Fst.append {l : Nat} {a : List Tk} (h : Fst l a) (b : List Tk) : Fst l (a ++ b) := by
  obtain ⟨t, r, h1, h2, h3, h4, h5, h6⟩ := h
  subst h1
  exact ⟨t, r ++ b, rfl, h2, h3, h4, fun k k' hi => nextS_append (h5 k k' hi), fun k k' => ⟨(h6 k k').1, fun hm => nextNum_append ((h6 k k').2 hm)⟩⟩
theorem Fst.kind {l : Nat} {t : Tk} {r : List Tk} (h5 : t.kind ≠ 5) (hi : nam t wIf = true → nextS r [58, 58] = true) : Fst l (t :: r) :=
  ⟨t, r, rfl, sgn_off h5 _, sgn_off h5 _, sgn_off h5 _, fun _ _ => hi, fun _ _ => ⟨sgn_off h5 _, fun h => by rw [sgn_off h5] at h; cases h⟩⟩
theorem Fst.sign {l : Nat} {t : Tk} {r : List Tk} {a : List UInt8} (h : sgn t a = true) (ha : (a == [58, 58] || a == [93] || a == [125]) = false) (h7 : 7 ≤ l → (a == [33] || a == [45]) = false) : Fst l (t :: r) := by
  simp only [Bool.or_eq_false_iff] at ha h7
  refine ⟨t, r, rfl, by rw [sgn_eq h]; exact ha.1.1, by rw [sgn_eq h]; exact ha.1.2, by rw [sgn_eq h]; exact ha.2, fun _ _ hi => (by rw [sgn_nam h] at hi; cases hi), fun k _ => ⟨by rw [sgn_eq h]; exact (h7 k).1, fun hm => by rw [sgn_eq h, (h7 k).2] at hm; cases hm⟩⟩
theorem der_first {l : Nat} {a : List Tk} {x : List Nd} (h : Der l a x) : Fst l a := by
  induction h with
  | ite t u v a b c x y z h1 h2 h3 _ _ _ _ _ _ => exact ⟨t, _, rfl, nam_sgn h1 _, nam_sgn h1 _, nam_sgn h1 _, fun k => by omega, fun k => by omega⟩
  | up l a x hl _ ih =>
    obtain ⟨t, r, h1, h2, h3, h4, h5, h6⟩ := ih
    exact ⟨t, r, h1, h2, h3, h4, fun k k' => h5 (by omega) (by omega), fun k k' => h6 (by omega) (by omega)⟩
  | bin l t a b x y hl ht _ _ ih _ => exact ih.append _
  | rel t a b x y ht _ _ ih _ =>
    obtain ⟨t', r, h1, h2, h3, h4, h5, h6⟩ := ih.append (t :: b)
    exact ⟨t', r, h1, h2, h3, h4, fun k k' => h5 (by omega) (by omega), fun k k' => by omega⟩
  | has t u a x ht hu _ ih =>
    obtain ⟨t', r, h1, h2, h3, h4, h5, h6⟩ := ih.append [t, u]
    exact ⟨t', r, h1, h2, h3, h4, fun k k' => h5 (by omega) (by omega), fun k k' => by omega⟩
  | like t u a x ht hu _ ih =>
    obtain ⟨t', r, h1, h2, h3, h4, h5, h6⟩ := ih.append [t, u]
    exact ⟨t', r, h1, h2, h3, h4, fun k k' => h5 (by omega) (by omega), fun k k' => by omega⟩
  | not t a x ht _ _ => exact Fst.sign ht (by decide) (fun k => by omega)
  | neg t a x ht hn _ _ => exact Fst.sign ht (by decide) (fun k => by omega)
  | get t u a x ht hu _ ih => exact ih.append _
  | call t u v w a b x y h1 h2 h3 h4 h5 _ _ ih _ => exact ih.append _
  | num t ht hg => exact Fst.kind (by rw [ht]; decide) (fun hi => by rw [nam_off (by rw [ht]; decide)] at hi; cases hi)
  | mnum t u ht hu hg =>
    exact ⟨t, [u], rfl, by rw [sgn_eq ht]; decide, by rw [sgn_eq ht]; decide, by rw [sgn_eq ht]; decide, fun _ _ hi => (by rw [sgn_nam ht] at hi; cases hi), fun _ _ => ⟨by rw [sgn_eq ht]; decide, fun _ => by show (u.kind == 2) = true; rw [hu]; rfl⟩⟩
  | text t ht => exact Fst.kind (by rw [ht]; decide) (fun hi => by rw [nam_off (by rw [ht]; decide)] at hi; cases hi)
  | slot t ht => exact Fst.kind (by rw [ht]; decide) (fun hi => by rw [nam_off (by rw [ht]; decide)] at hi; cases hi)
  | ent t u v ht hu hv => exact Fst.kind (by rw [ht]; decide) (fun hi => hu)
  | yes t ht => exact Fst.kind (by rw [(nam_kind ht).1]; decide) (fun hi => by rw [nam_eq ht] at hi; revert hi; decide)
  | no t ht => exact Fst.kind (by rw [(nam_kind ht).1]; decide) (fun hi => by rw [nam_eq ht] at hi; revert hi; decide)
  | var t ht h1 h2 hr => exact Fst.kind (by rw [ht]; decide) (fun hi => by rw [(nam_kind hi).2] at hr; revert hr; decide)
  | round t u a x ht hu _ _ => exact Fst.sign ht (by decide) (fun _ => by decide)
  | set0 t u ht hu => exact Fst.sign ht (by decide) (fun _ => by decide)
  | set t u a x ht hu _ _ => exact Fst.sign ht (by decide) (fun _ => by decide)
  | rec0 t u ht hu => exact Fst.sign ht (by decide) (fun _ => by decide)
  | fields t u k nm a x ht hu _ _ => exact Fst.sign ht (by decide) (fun _ => by decide)
  | one a x _ ih =>
    obtain ⟨t, r, h1, h2, h3, h4, h5, h6⟩ := ih
    exact ⟨t, r, h1, h2, h3, h4, fun k k' => by omega, fun k k' => by omega⟩
  | more t k a b x y ht _ _ ih _ => exact ih.append _
  | fone u c b y hu hc hs _ _ =>
    have h5 : u.kind ≠ 5 := by rw [hu]; decide
    exact ⟨u, _, rfl, sgn_off h5 _, sgn_off h5 _, sgn_off h5 _, fun k k' => by omega, fun k k' => by omega⟩
  | fmore t u c k nm a b x y _ _ _ _ _ _ ih _ => exact ih.append _

/-- Behind so many parts of a set. -/
def ContS (m : Nat) (x : List Nd) (r : List Tk) (res : ER) : Prop := ∃ n, (match r with
  | [] => some (.error (0, 1))
  | t :: r1 => if sgn t [93] = true then some (.ok (mkN 5 ((m : Int) + 1) [] [] :: x, r1)) else if sgn t [44] = true then pS n (m + 1) x r1 else some (.error (r1.length + 1, 1))) = some res
def ContK (m : Nat) (nm : List UInt8) (x : List Nd) (r : List Tk) (res : ER) : Prop := ∃ n, (match r with
  | [] => some (.error (0, 1))
  | t :: r1 => if sgn t [125] = true then some (.ok (mkN 6 ((m : Int) + 1) [] [] :: x, r1)) else if comR nm t = true then pK n (m + 1) nm x r1 else some (.error (r1.length + 1, 1))) = some res

/-- What is of a form is read so. -/
structure Cpl (lvl : Nat) (ts : List Tk) (e : List Nd) : Prop where
  flat : lvl ≤ 8 → ∀ r, good lvl r → Run lvl (ts ++ r) (.ok (e, r))
  left : lftL lvl → ∀ r x, good (lvl + 1) r → RunL lvl e r x → Run lvl (ts ++ r) x
  pst : lvl = 7 → ∀ r x, good 8 r → RunP e r x → Run 7 (ts ++ r) x
  set : lvl = 9 → ∃ (m : Nat) (x0 : List Nd), e = mkN 5 ((m : Int) + 1) [] [] :: x0 ∧ ∀ r x, good 0 r → ContS m x0 r x → RunS 0 [] (ts ++ r) x
  recd : lvl = 10 → ∃ (m : Nat) (nm : List UInt8) (x0 : List Nd), e = mkN 6 ((m : Int) + 1) nm [] :: x0 ∧ ∀ r x, good 0 r → ContK m nm x0 r x → RunK 0 [] [] (ts ++ r) x

theorem Run.and {lvl : Nat} {l r : List Tk} {a : List Nd} {x : ER} {f : Nat → List Nd → List Tk → PR} {g : Nat → PR} (h : Run lvl l (.ok (a, r))) (hf : ∃ n, f n a r = some x) (hm : ∀ n m, n ≤ m → Ple (f n a r) (f m a r))
    (hg : ∀ n, g (n + 1) = andR (pE n lvl l) (f n)) : ∃ n, g n = some x := by
  obtain ⟨n1, h1⟩ := h
  obtain ⟨n2, h2⟩ := hf
  refine ⟨n1 + n2 + 1, ?_⟩
  rw [hg, (mono_all n1 (n1 + n2) (by omega)).E _ _ _ h1]
  exact hm n2 (n1 + n2) (by omega) _ h2
theorem Run.left {lvl : Nat} {l r : List Tk} {a : List Nd} {x : ER} (hl : lftL lvl) (h : Run (lvl + 1) l (.ok (a, r))) (h2 : RunL lvl a r x) : Run lvl l x := by
  refine Run.and (f := fun n a r => pL n lvl a r) h h2 (fun n m hnm => (mono_all n m hnm).L _ _ _) (fun n => ?_)
  rw [pE.eq_def]
  rcases hl with hl | hl | hl | hl <;> subst hl <;> rfl
theorem RunL.step {lvl : Nat} {t : Tk} {r r' : List Tk} {a b : List Nd} {x : ER} (ht : lvlS lvl t = true) (h : Run (lvl + 1) r (.ok (b, r'))) (h2 : RunL lvl (opN (opOf t) :: (a ++ b)) r' x) : RunL lvl a (t :: r) x := by
  refine Run.and (f := fun n b r1 => pL n lvl (opN (opOf t) :: (a ++ b)) r1) h h2 (fun n m hnm => (mono_all n m hnm).L _ _ _) (fun n => ?_)
  rw [pL.eq_def]; simp only [ht, if_true]
theorem RunL.stop {lvl : Nat} {a : List Nd} {r : List Tk} (h : ∀ t r', r = t :: r' → lvlS lvl t = false) : RunL lvl a r (.ok (a, r)) := by
  refine ⟨1, ?_⟩
  rw [pL.eq_def]
  cases r with
  | nil => rfl
  | cons t r => simp only [h t r rfl, Bool.false_eq_true, if_false]
theorem good_stop {lvl : Nat} {r : List Tk} (hl : lftL lvl) (h : good lvl r) : ∀ t r', r = t :: r' → lvlS lvl t = false := by
  intro t r' e
  have hb := h t r' e
  unfold bad at hb
  simp only [Bool.or_eq_false_iff] at hb
  obtain ⟨⟨⟨⟨⟨⟨⟨h1, h2⟩, h3⟩, h4⟩, h5⟩, h6⟩, h7⟩, h8⟩ := hb
  rcases hl with hl | hl | hl | hl <;> subst hl
  · exact h8
  · exact h7
  · exact h5
  · exact h4
theorem RunP.stop {a : List Nd} {r : List Tk} (h : good 7 r) : RunP a r (.ok (a, r)) := by
  refine ⟨1, ?_⟩
  rw [pP.eq_def]
  cases r with
  | nil => rfl
  | cons t r =>
    have hb := h t r rfl
    unfold bad at hb
    simp only [Bool.or_eq_false_iff] at hb
    obtain ⟨⟨⟨⟨⟨⟨⟨h1, h2⟩, h3⟩, h4⟩, h5⟩, h6⟩, h7⟩, h8⟩ := hb
    have h3' : sgn t [46] = false := h3
    simp only [h3', Bool.false_eq_true, if_false]

theorem cpl_left {lvl : Nat} {ts : List Tk} {e : List Nd} (hl : lftL lvl) (h : ∀ r x, good (lvl + 1) r → RunL lvl e r x → Run lvl (ts ++ r) x) : Cpl lvl ts e :=
  ⟨fun _ r hg => h r _ (good_up (by omega) hg) (RunL.stop (good_stop hl hg)), fun _ => h, fun h7 => by unfold lftL at hl; omega, fun h7 => by unfold lftL at hl; omega, fun h7 => by unfold lftL at hl; omega⟩
theorem cpl_pst {ts : List Tk} {e : List Nd} (h : ∀ r x, good 8 r → RunP e r x → Run 7 (ts ++ r) x) : Cpl 7 ts e :=
  ⟨fun _ r hg => h r _ (good_up (by omega) hg) (RunP.stop hg), fun hl => by unfold lftL at hl; omega, fun _ => h, fun h7 => by omega, fun h7 => by omega⟩
theorem cpl_flat {lvl : Nat} {ts : List Tk} {e : List Nd} (hl : lvl = 0 ∨ lvl = 3 ∨ lvl = 6 ∨ lvl = 8) (h : ∀ r, good lvl r → Run lvl (ts ++ r) (.ok (e, r))) : Cpl lvl ts e :=
  ⟨fun _ => h, fun hl => by unfold lftL at hl; omega, fun h7 => by omega, fun h7 => by omega, fun h7 => by omega⟩
theorem cpl_set {ts : List Tk} {e : List Nd} (h : ∃ (m : Nat) (x0 : List Nd), e = mkN 5 ((m : Int) + 1) [] [] :: x0 ∧ ∀ r x, good 0 r → ContS m x0 r x → RunS 0 [] (ts ++ r) x) : Cpl 9 ts e :=
  ⟨fun h7 => by omega, fun hl => by unfold lftL at hl; omega, fun h7 => by omega, fun _ => h, fun h7 => by omega⟩
theorem cpl_rec {ts : List Tk} {e : List Nd} (h : ∃ (m : Nat) (nm : List UInt8) (x0 : List Nd), e = mkN 6 ((m : Int) + 1) nm [] :: x0 ∧ ∀ r x, good 0 r → ContK m nm x0 r x → RunK 0 [] [] (ts ++ r) x) : Cpl 10 ts e :=
  ⟨fun h7 => by omega, fun hl => by unfold lftL at hl; omega, fun h7 => by omega, fun h7 => by omega, fun _ => h⟩
end Go.Proofs.YtpbnjdgedifnoabGreatDoor
namespace Go.Proofs.YtpbnjdgedifnoabGreatDoor
set_option linter.unusedVariables false

theorem Run.lift {n lvl m : Nat} {l l' : List Tk} {x : ER} (h : Run m l x) (e : ∀ n, pE (n + 1) lvl l' = pE n m l) : Run lvl l' x := by
  obtain ⟨n, h⟩ := h
  exact ⟨n + 1, by rw [e, h]⟩
theorem must_pos {p : Tk → Bool} {t : Tk} {r : List Tk} {f : Tk → List Tk → PR} (h : p t = true) : must p (t :: r) f = f t r := by
  show (if p t = true then f t r else _) = _
  rw [if_pos h]
theorem good_rest {l : Nat} {t : Tk} {r : List Tk} (h : good l (t :: r)) : bad l t = false := h t r rfl
theorem good_first {l : Nat} {r : List Tk} (h : good l r) (hl : 8 ≤ 8) : nextS r [58, 58] = false ∧ nextS r [40] = false := by
  cases r with
  | nil => exact ⟨rfl, rfl⟩
  | cons t r =>
    have hb := h t r rfl
    unfold bad at hb
    simp only [Bool.or_eq_false_iff] at hb
    obtain ⟨⟨⟨⟨⟨⟨⟨h1, h2⟩, h3⟩, h4⟩, h5⟩, h6⟩, h7⟩, h8⟩ := hb
    exact ⟨h1, h2⟩
theorem good_three {r : List Tk} (h : good 3 r) : ∀ t r', r = t :: r' → relS t = false ∧ hasS t = false ∧ nam t wLike = false := by
  intro t r' e
  have hb := h t r' e
  unfold bad at hb
  simp only [Bool.or_eq_false_iff] at hb
  obtain ⟨⟨⟨⟨⟨⟨⟨h1, h2⟩, h3⟩, h4⟩, h5⟩, h6⟩, h7⟩, h8⟩ := hb
  have h6' : (relS t || hasS t || nam t wLike) = false := h6
  simp only [Bool.or_eq_false_iff] at h6'
  exact ⟨h6'.1.1, h6'.1.2, h6'.2⟩

theorem pE3 (n : Nat) (l : List Tk) : pE (n + 1) 3 l = andR (pE n 4 l) fun a r =>
        match r with
        | [] => some (.ok (a, []))
        | t :: r1 =>
          if relS t = true then andR (pE n 4 r1) fun b r2 => some (.ok (opN (opOf t) :: (a ++ b), r2))
          else if hasS t = true then must (fun u => u.kind == 1) r1 fun u r2 => some (.ok (mkN (if nam t wHas = true then 21 else 24) 0 u.l [] :: a, r2))
          else if nam t wLike = true then must (fun u => u.kind == 3) r1 fun u r2 => some (.ok (mkN 23 0 u.l [] :: a, r2))
          else some (.ok (a, t :: r1)) := by rw [pE.eq_def]; rfl

/-- One behind the other, with the fuel that both ask. -/
theorem Run.two {lvl : Nat} {l r : List Tk} {a : List Nd} (h : Run lvl l (.ok (a, r))) : ∃ n0, ∀ n, n0 ≤ n → ∀ f : List Nd → List Tk → PR, andR (pE n lvl l) f = f a r := by
  obtain ⟨n0, h⟩ := h
  refine ⟨n0, fun n hn f => ?_⟩
  rw [(mono_all n0 n hn).E _ _ _ h]
  rfl

theorem cpl_ite (t u v : Tk) (a b c : List Tk) (x y z : List Nd) (h1 : nam t wIf = true) (h2 : nam u wThen = true) (h3 : nam v wElse = true) (ha : Der 0 a x) (iha : Cpl 0 a x) (ihb : Cpl 0 b y) (ihc : Cpl 0 c z) :
    Cpl 0 (t :: (a ++ u :: (b ++ v :: c))) (opN 13 :: (x ++ (y ++ z))) := by
  refine cpl_flat (Or.inl rfl) fun r hr => ?_
  obtain ⟨na, ea⟩ := (iha.flat (by omega) (u :: (b ++ v :: (c ++ r))) (good_nam h2 (by decide))).two
  obtain ⟨nb, eb⟩ := (ihb.flat (by omega) (v :: (c ++ r)) (good_nam h3 (by decide))).two
  obtain ⟨nc, ec⟩ := (ihc.flat (by omega) r hr).two
  refine ⟨na + nb + nc + 1, ?_⟩
  have el : t :: (a ++ u :: (b ++ v :: c)) ++ r = t :: (a ++ (u :: (b ++ v :: (c ++ r)))) := by simp
  rw [el]
  have hn : nextS (a ++ (u :: (b ++ v :: (c ++ r)))) [58, 58] = false := by
    obtain ⟨t', r', h1', h2', _⟩ := der_first ha
    rw [h1']; exact h2'
  have hc : (nam t wIf && !nextS (a ++ (u :: (b ++ v :: (c ++ r)))) [58, 58]) = true := by rw [h1, hn]; rfl
  have e : ∀ n, pE (n + 1) 0 (t :: (a ++ (u :: (b ++ v :: (c ++ r))))) = andR (pE n 0 (a ++ (u :: (b ++ v :: (c ++ r))))) fun a r1 => must (fun u => nam u wThen) r1 fun _ r2 => andR (pE n 0 r2) fun b r3 => must (fun u => nam u wElse) r3 fun _ r4 =>
            andR (pE n 0 r4) fun c r5 => some (.ok (opN 13 :: (a ++ (b ++ c)), r5)) := by
    intro n; rw [pE.eq_def]; simp only [if_true, hc]
  rw [e, ea _ (by omega), must_pos h2, eb _ (by omega), must_pos h3, ec _ (by omega)]

theorem cpl_up (l : Nat) (a : List Tk) (x : List Nd) (hl : l ≤ 7) (hd : Der (l + 1) a x) (ih : Cpl (l + 1) a x) : Cpl l a x := by
  obtain ⟨t, r0, e0, _, _, _, hf1, hf2⟩ := der_first hd
  match l, hl with
  | 0, _ =>
    refine cpl_flat (Or.inl rfl) fun r hr => ?_
    refine Run.lift (n := 0) (ih.flat (by omega) r (good_up (by omega) hr)) fun n => ?_
    subst e0
    have hc : (nam t wIf && !nextS (r0 ++ r) [58, 58]) = false := by
      cases hi : nam t wIf with
      | false => rfl
      | true => rw [nextS_append (hf1 (by omega) (by omega) hi)]; rfl
    show pE (n + 1) 0 (t :: (r0 ++ r)) = pE n 1 (t :: (r0 ++ r))
    rw [pE.eq_def]; simp only [if_true, hc, Bool.false_eq_true, if_false]
  | 1, _ => exact cpl_left (Or.inl rfl) fun r y hr hy => Run.left (Or.inl rfl) (ih.flat (by omega) r hr) hy
  | 2, _ => exact cpl_left (Or.inr (Or.inl rfl)) fun r y hr hy => Run.left (Or.inr (Or.inl rfl)) (ih.flat (by omega) r hr) hy
  | 3, _ =>
    refine cpl_flat (Or.inr (Or.inl rfl)) fun r hr => ?_
    obtain ⟨n0, e⟩ := (ih.flat (by omega) r (good_up (by omega) hr)).two
    refine ⟨n0 + 1, ?_⟩
    rw [pE3, e n0 (by omega)]
    cases r with
    | nil => rfl
    | cons u r1 =>
      obtain ⟨c1, c2, c3⟩ := good_three hr u r1 rfl
      simp only [c1, c2, c3, Bool.false_eq_true, if_false]
  | 4, _ => exact cpl_left (Or.inr (Or.inr (Or.inl rfl))) fun r y hr hy => Run.left (Or.inr (Or.inr (Or.inl rfl))) (ih.flat (by omega) r hr) hy
  | 5, _ => exact cpl_left (Or.inr (Or.inr (Or.inr rfl))) fun r y hr hy => Run.left (Or.inr (Or.inr (Or.inr rfl))) (ih.flat (by omega) r hr) hy
  | 6, _ =>
    refine cpl_flat (Or.inr (Or.inr (Or.inl rfl))) fun r hr => ?_
    refine Run.lift (n := 0) (ih.flat (by omega) r (good_up (by omega) hr)) fun n => ?_
    subst e0
    obtain ⟨k1, k2⟩ := hf2 (by omega) (by omega)
    have hc : (sgn t [45] && !nextNum (r0 ++ r)) = false := by
      cases hi : sgn t [45] with
      | false => rfl
      | true => rw [nextNum_append (k2 hi)]; rfl
    show pE (n + 1) 6 (t :: (r0 ++ r)) = pE n 7 (t :: (r0 ++ r))
    rw [pE.eq_def]
    simp [k1, hc]
  | 7, _ =>
    refine cpl_pst fun r y hr hy => ?_
    refine Run.and (f := fun n a r => pP n a r) (ih.flat (by omega) r hr) hy (fun n m hnm => (mono_all n m hnm).P _ _) (fun n => ?_)
    rw [pE.eq_def]; rfl

theorem cpl_bin (l : Nat) (t : Tk) (a b : List Tk) (x y : List Nd) (hl : lftL l) (ht : lvlS l t = true) (iha : Cpl l a x) (ihb : Cpl (l + 1) b y) : Cpl l (a ++ t :: b) (opN (opOf t) :: (x ++ y)) := by
  refine cpl_left hl fun r z hr hz => ?_
  have el : a ++ t :: b ++ r = a ++ (t :: (b ++ r)) := by simp
  rw [el]
  refine iha.left hl _ z (good_lvl hl ht) ?_
  exact RunL.step ht (ihb.flat (by unfold lftL at hl; omega) r hr) hz

theorem cpl_rel (t : Tk) (a b : List Tk) (x y : List Nd) (ht : relS t = true) (iha : Cpl 4 a x) (ihb : Cpl 4 b y) : Cpl 3 (a ++ t :: b) (opN (opOf t) :: (x ++ y)) := by
  refine cpl_flat (Or.inr (Or.inl rfl)) fun r hr => ?_
  have el : a ++ t :: b ++ r = a ++ (t :: (b ++ r)) := by simp
  rw [el]
  obtain ⟨na, ea⟩ := (iha.flat (by omega) (t :: (b ++ r)) (good_rel ht)).two
  obtain ⟨nb, eb⟩ := (ihb.flat (by omega) r (good_up (by omega) hr)).two
  refine ⟨na + nb + 1, ?_⟩
  rw [pE3, ea _ (by omega)]
  simp only [ht, if_true]
  rw [eb _ (by omega)]
theorem cpl_has (t u : Tk) (a : List Tk) (x : List Nd) (ht : hasS t = true) (hu : u.kind = 1) (iha : Cpl 4 a x) : Cpl 3 (a ++ [t, u]) (mkN (if nam t wHas = true then 21 else 24) 0 u.l [] :: x) := by
  refine cpl_flat (Or.inr (Or.inl rfl)) fun r hr => ?_
  have el : a ++ [t, u] ++ r = a ++ (t :: (u :: r)) := by simp
  rw [el]
  obtain ⟨g1, g2⟩ := good_has (r := u :: r) ht
  obtain ⟨na, ea⟩ := (iha.flat (by omega) _ g1).two
  refine ⟨na + 1, ?_⟩
  rw [pE3, ea _ (by omega)]
  simp only [g2, ht, if_true, Bool.false_eq_true, if_false]
  rw [must_pos (by rw [hu]; rfl)]
theorem cpl_like (t u : Tk) (a : List Tk) (x : List Nd) (ht : nam t wLike = true) (hu : u.kind = 3) (iha : Cpl 4 a x) : Cpl 3 (a ++ [t, u]) (mkN 23 0 u.l [] :: x) := by
  refine cpl_flat (Or.inr (Or.inl rfl)) fun r hr => ?_
  have el : a ++ [t, u] ++ r = a ++ (t :: (u :: r)) := by simp
  rw [el]
  obtain ⟨g1, g2, g3⟩ := good_like (r := u :: r) ht
  obtain ⟨na, ea⟩ := (iha.flat (by omega) _ g1).two
  refine ⟨na + 1, ?_⟩
  rw [pE3, ea _ (by omega)]
  simp only [g2, g3, ht, if_true, Bool.false_eq_true, if_false]
  rw [must_pos (by rw [hu]; rfl)]
theorem cpl_not (t : Tk) (a : List Tk) (x : List Nd) (ht : sgn t [33] = true) (iha : Cpl 6 a x) : Cpl 6 (t :: a) (opN 9 :: x) := by
  refine cpl_flat (Or.inr (Or.inr (Or.inl rfl))) fun r hr => ?_
  obtain ⟨na, ea⟩ := (iha.flat (by omega) r hr).two
  refine ⟨na + 1, ?_⟩
  have e : pE (na + 1) 6 (t :: (a ++ r)) = andR (pE na 6 (a ++ r)) fun a r1 => some (.ok (opN 9 :: a, r1)) := by rw [pE.eq_def]; simp [ht]
  show pE (na + 1) 6 (t :: (a ++ r)) = _
  rw [e, ea _ (by omega)]
theorem cpl_neg (t : Tk) (a : List Tk) (x : List Nd) (ht : sgn t [45] = true) (hn : nextNum a = false) (hd : Der 6 a x) (iha : Cpl 6 a x) : Cpl 6 (t :: a) (opN 10 :: x) := by
  refine cpl_flat (Or.inr (Or.inr (Or.inl rfl))) fun r hr => ?_
  obtain ⟨na, ea⟩ := (iha.flat (by omega) r hr).two
  refine ⟨na + 1, ?_⟩
  have c1 : sgn t [33] = false := by rw [sgn_eq ht]; decide
  have c2 : nextNum (a ++ r) = false := by rw [nextNum_left hd.ne]; exact hn
  have e : pE (na + 1) 6 (t :: (a ++ r)) = andR (pE na 6 (a ++ r)) fun a r1 => some (.ok (opN 10 :: a, r1)) := by rw [pE.eq_def]; simp [ht, c1, c2]
  show pE (na + 1) 6 (t :: (a ++ r)) = _
  rw [e, ea _ (by omega)]

theorem pP_dot (n : Nat) (a : List Nd) (t : Tk) (r : List Tk) (c1 : sgn t [46] = true) : pP (n + 1) a (t :: r) = must (fun u => u.kind == 1) r fun u r1 =>
        (if (isCall u && nextS r1 [40]) = true then andR (pE n 0 r1.tail) fun b r2 => must (fun v => sgn v [41]) r2 fun _ r3 => pP n (opN (callOp u) :: (a ++ b)) r3
         else pP n (mkN 22 0 u.l [] :: a) r1) := by rw [pP.eq_def]; simp only [c1, if_true]
theorem cpl_get (t u : Tk) (a : List Tk) (x : List Nd) (ht : sgn t [46] = true) (hu : u.kind = 1) (iha : Cpl 7 a x) : Cpl 7 (a ++ [t, u]) (mkN 22 0 u.l [] :: x) := by
  refine cpl_pst fun r y hr hy => ?_
  have el : a ++ [t, u] ++ r = a ++ (t :: (u :: r)) := by simp
  rw [el]
  refine iha.pst rfl _ y (good_sgn ht (by decide)) ?_
  obtain ⟨n, hn⟩ := hy
  refine ⟨n + 1, ?_⟩
  rw [pP_dot n x t _ ht, must_pos (by rw [hu]; rfl)]
  have : (isCall u && nextS r [40]) = false := by rw [(good_first hr (by omega)).2]; simp
  simp only [this, Bool.false_eq_true, if_false]
  exact hn
theorem cpl_call (t u v w : Tk) (a b : List Tk) (x y : List Nd) (ht : sgn t [46] = true) (hu : u.kind = 1) (hc : isCall u = true) (hv : sgn v [40] = true) (hw : sgn w [41] = true) (iha : Cpl 7 a x) (ihb : Cpl 0 b y) :
    Cpl 7 (a ++ t :: u :: v :: (b ++ [w])) (opN (callOp u) :: (x ++ y)) := by
  refine cpl_pst fun r z hr hz => ?_
  have el : a ++ t :: u :: v :: (b ++ [w]) ++ r = a ++ (t :: (u :: (v :: (b ++ (w :: r))))) := by simp
  rw [el]
  refine iha.pst rfl _ z (good_sgn ht (by decide)) ?_
  obtain ⟨n, hn⟩ := hz
  obtain ⟨nb, eb⟩ := (ihb.flat (by omega) (w :: r) (good_sgn hw (by decide))).two
  refine ⟨n + nb + 1, ?_⟩
  rw [pP_dot _ x t _ ht, must_pos (by rw [hu]; rfl)]
  have : (isCall u && nextS (v :: (b ++ w :: r)) [40]) = true := by rw [hc]; exact hv
  simp only [this, if_true, List.tail_cons]
  rw [eb _ (by omega), must_pos hw]
  exact (mono_all n (n + nb) (by omega)).P _ _ _ hn

theorem pE8 (n : Nat) (t : Tk) (r : List Tk) : pE (n + 1) 8 (t :: r) = (if (t.kind == 2) = true then (if great t false = true then some (.error (r.length + 1, 5)) else some (.ok ([numN t false], r)))
        else if (t.kind == 3) = true then some (.ok ([mkN 3 0 t.l []], r))
        else if (t.kind == 4) = true then some (.ok ([mkN 8 0 (63 :: t.l) []], r))
        else if (t.kind == 1) = true then
          (if nextS r [58, 58] = true then must (fun u => u.kind == 3) r.tail fun u r2 => some (.ok ([mkN 4 0 t.l u.l], r2))
           else if (t.l == wTrue) = true then some (.ok ([mkN 1 1 [] []], r))
           else if (t.l == wFalse) = true then some (.ok ([mkN 1 0 [] []], r))
           else if rsv t.l = true then some (.error (r.length, 1))
           else some (.ok ([mkN 8 0 t.l []], r)))
        else if (t.l == [45]) = true then must (fun u => u.kind == 2) r fun u r2 => (if great u true = true then some (.error (r2.length + 1, 5)) else some (.ok ([numN u true], r2)))
        else if (t.l == [40]) = true then andR (pE n 0 r) fun a r1 => must (fun u => sgn u [41]) r1 fun _ r2 => some (.ok (a, r2))
        else if (t.l == [91]) = true then (if nextS r [93] = true then some (.ok ([mkN 5 0 [] []], r.tail)) else pS n 0 [] r)
        else if (t.l == [123]) = true then (if nextS r [125] = true then some (.ok ([mkN 6 0 [] []], r.tail)) else pK n 0 [] [] r)
        else some (.error (r.length + 1, 1))) := by rw [pE.eq_def]; rfl
theorem pE8_name (n : Nat) (t : Tk) (r : List Tk) (h : t.kind = 1) : pE (n + 1) 8 (t :: r) = (if nextS r [58, 58] = true then must (fun u => u.kind == 3) r.tail fun u r2 => some (.ok ([mkN 4 0 t.l u.l], r2))
           else if (t.l == wTrue) = true then some (.ok ([mkN 1 1 [] []], r))
           else if (t.l == wFalse) = true then some (.ok ([mkN 1 0 [] []], r))
           else if rsv t.l = true then some (.error (r.length, 1))
           else some (.ok ([mkN 8 0 t.l []], r))) := by
  rw [pE8, h]; rfl
theorem pE8_sign (n : Nat) (t : Tk) (r : List Tk) (h : t.kind = 5) : pE (n + 1) 8 (t :: r) = (if (t.l == [45]) = true then must (fun u => u.kind == 2) r fun u r2 => (if great u true = true then some (.error (r2.length + 1, 5)) else some (.ok ([numN u true], r2)))
        else if (t.l == [40]) = true then andR (pE n 0 r) fun a r1 => must (fun u => sgn u [41]) r1 fun _ r2 => some (.ok (a, r2))
        else if (t.l == [91]) = true then (if nextS r [93] = true then some (.ok ([mkN 5 0 [] []], r.tail)) else pS n 0 [] r)
        else if (t.l == [123]) = true then (if nextS r [125] = true then some (.ok ([mkN 6 0 [] []], r.tail)) else pK n 0 [] [] r)
        else some (.error (r.length + 1, 1))) := by
  rw [pE8, h]; rfl

theorem contS_end (m : Nat) (x : List Nd) (u : Tk) (r : List Tk) (hu : sgn u [93] = true) : ContS m x (u :: r) (.ok (mkN 5 ((m : Int) + 1) [] [] :: x, r)) := ⟨0, by simp only [hu, if_true]⟩
theorem contK_end (m : Nat) (nm : List UInt8) (x : List Nd) (u : Tk) (r : List Tk) (hu : sgn u [125] = true) : ContK m nm x (u :: r) (.ok (mkN 6 ((m : Int) + 1) [] [] :: x, r)) := ⟨0, by simp only [hu, if_true]⟩

theorem contS_mono {n m k : Nat} {x : List Nd} {r : List Tk} (h : n ≤ m) : Ple (match r with
  | [] => some (.error (0, 1))
  | t :: r1 => if sgn t [93] = true then some (.ok (mkN 5 ((k : Int) + 1) [] [] :: x, r1)) else if sgn t [44] = true then pS n (k + 1) x r1 else some (.error (r1.length + 1, 1)))
  (match r with
  | [] => some (.error (0, 1))
  | t :: r1 => if sgn t [93] = true then some (.ok (mkN 5 ((k : Int) + 1) [] [] :: x, r1)) else if sgn t [44] = true then pS m (k + 1) x r1 else some (.error (r1.length + 1, 1))) := by
  cases r with
  | nil => exact Ple.refl _
  | cons t r1 => exact Ple.ite (Ple.refl _) (Ple.ite ((mono_all n m h).S _ _ _) (Ple.refl _))
theorem contK_mono {n m k : Nat} {nm : List UInt8} {x : List Nd} {r : List Tk} (h : n ≤ m) : Ple (match r with
  | [] => some (.error (0, 1))
  | t :: r1 => if sgn t [125] = true then some (.ok (mkN 6 ((k : Int) + 1) [] [] :: x, r1)) else if comR nm t = true then pK n (k + 1) nm x r1 else some (.error (r1.length + 1, 1)))
  (match r with
  | [] => some (.error (0, 1))
  | t :: r1 => if sgn t [125] = true then some (.ok (mkN 6 ((k : Int) + 1) [] [] :: x, r1)) else if comR nm t = true then pK m (k + 1) nm x r1 else some (.error (r1.length + 1, 1))) := by
  cases r with
  | nil => exact Ple.refl _
  | cons t r1 => exact Ple.ite (Ple.refl _) (Ple.ite ((mono_all n m h).K _ _ _ _) (Ple.refl _))

theorem RunS.part {k : Nat} {acc a : List Nd} {l r : List Tk} {x : ER} (h : Run 0 l (.ok (a, r))) (hc : ContS k (acc ++ a) r x) : RunS k acc l x := by
  obtain ⟨n0, e⟩ := h.two
  obtain ⟨n1, h1⟩ := hc
  refine ⟨n0 + n1 + 1, ?_⟩
  rw [pS.eq_def]
  simp only
  rw [e _ (by omega)]
  refine contS_mono (n := n1) (by omega) _ ?_
  cases r <;> exact h1
theorem RunK.part {k : Nat} {nm : List UInt8} {acc a : List Nd} {u c : Tk} {l r : List Tk} {x : ER} (hu : u.kind = 1) (hn : Lib.compareBytes nm u.l < 0) (hc : sgn c [58] = true) (h : Run 0 l (.ok (a, r)))
    (hk : ContK k u.l (acc ++ (mkN 7 0 u.l [] :: a)) r x) : RunK k nm acc (u :: c :: l) x := by
  obtain ⟨n0, e⟩ := h.two
  obtain ⟨n1, h1⟩ := hk
  refine ⟨n0 + n1 + 1, ?_⟩
  rw [pK.eq_def]
  simp only
  rw [must_pos (by rw [hu]; simpa using hn), must_pos hc, e _ (by omega)]
  refine contK_mono (n := n1) (by omega) _ ?_
  cases r <;> exact h1

theorem mkN_five {k k' : Int} {x x' : List Nd} (h : mkN 5 k [] [] :: x = mkN 5 k' [] [] :: x') : k = k' ∧ x = x' := by
  injection h with h1 h2
  unfold mkN at h1
  injection h1 with _ h1
  exact ⟨h1, h2⟩
theorem mkN_six {k k' : Int} {nm nm' : List UInt8} {x x' : List Nd} (h : mkN 6 k nm [] :: x = mkN 6 k' nm' [] :: x') : k = k' ∧ nm = nm' ∧ x = x' := by
  injection h with h1 h2
  unfold mkN at h1
  injection h1 with _ h1 h3 _
  refine ⟨h1, ?_, h2⟩
  simpa using h3

theorem der_cpl {l : Nat} {a : List Tk} {x : List Nd} (h : Der l a x) : Cpl l a x := by
  induction h with
  | ite t u v a b c x y z h1 h2 h3 ha _ _ iha ihb ihc => exact cpl_ite t u v a b c x y z h1 h2 h3 ha iha ihb ihc
  | up l a x hl hd ih => exact cpl_up l a x hl hd ih
  | bin l t a b x y hl ht _ _ iha ihb => exact cpl_bin l t a b x y hl ht iha ihb
  | rel t a b x y ht _ _ iha ihb => exact cpl_rel t a b x y ht iha ihb
  | has t u a x ht hu _ ih => exact cpl_has t u a x ht hu ih
  | like t u a x ht hu _ ih => exact cpl_like t u a x ht hu ih
  | not t a x ht _ ih => exact cpl_not t a x ht ih
  | neg t a x ht hn hd ih => exact cpl_neg t a x ht hn hd ih
  | get t u a x ht hu _ ih => exact cpl_get t u a x ht hu ih
  | call t u v w a b x y h1 h2 h3 h4 h5 _ _ iha ihb => exact cpl_call t u v w a b x y h1 h2 h3 h4 h5 iha ihb
  | num t ht hg =>
    refine cpl_flat (by omega) fun r hr => ⟨1, ?_⟩
    show pE 1 8 (t :: r) = _
    rw [pE8, ht, hg]; rfl
  | mnum t u ht hu hg =>
    refine cpl_flat (by omega) fun r hr => ⟨1, ?_⟩
    show pE 1 8 (t :: u :: r) = _
    obtain ⟨k1, k2⟩ := sgn_kind ht
    rw [pE8_sign _ _ _ k1, k2, if_pos (by rfl), must_pos (by rw [hu]; rfl), hg]; rfl
  | text t ht =>
    refine cpl_flat (by omega) fun r hr => ⟨1, ?_⟩
    show pE 1 8 (t :: r) = _
    rw [pE8, ht]; rfl
  | slot t ht =>
    refine cpl_flat (by omega) fun r hr => ⟨1, ?_⟩
    show pE 1 8 (t :: r) = _
    rw [pE8, ht]; rfl
  | ent t u v ht hu hv =>
    refine cpl_flat (by omega) fun r hr => ⟨1, ?_⟩
    show pE 1 8 (t :: u :: v :: r) = _
    rw [pE8_name _ _ _ ht, if_pos (show nextS (u :: v :: r) [58, 58] = true from hu)]
    show must _ (v :: r) _ = _
    rw [must_pos (by rw [hv]; rfl)]
  | yes t ht =>
    refine cpl_flat (by omega) fun r hr => ⟨1, ?_⟩
    show pE 1 8 (t :: r) = _
    obtain ⟨k1, k2⟩ := nam_kind ht
    rw [pE8_name _ _ _ k1, (good_first hr (by omega)).1, k2]; rfl
  | no t ht =>
    refine cpl_flat (by omega) fun r hr => ⟨1, ?_⟩
    show pE 1 8 (t :: r) = _
    obtain ⟨k1, k2⟩ := nam_kind ht
    rw [pE8_name _ _ _ k1, (good_first hr (by omega)).1, k2]; rfl
  | var t ht h1 h2 hr' =>
    refine cpl_flat (by omega) fun r hr => ⟨1, ?_⟩
    show pE 1 8 (t :: r) = _
    rw [pE8_name _ _ _ ht, (good_first hr (by omega)).1, if_neg (by decide), if_neg (by simpa using h1), if_neg (by simpa using h2), hr', if_neg (by decide)]
  | round t u a x ht hu _ ih =>
    refine cpl_flat (by omega) fun r hr => ?_
    obtain ⟨na, ea⟩ := (ih.flat (by omega) (u :: r) (good_sgn hu (by decide))).two
    refine ⟨na + 1, ?_⟩
    have el : t :: (a ++ [u]) ++ r = t :: (a ++ (u :: r)) := by simp
    obtain ⟨k1, k2⟩ := sgn_kind ht
    rw [el, pE8_sign _ _ _ k1, k2, if_neg (by decide), if_pos (by rfl), ea _ (by omega), must_pos hu]
  | set0 t u ht hu =>
    refine cpl_flat (by omega) fun r hr => ⟨1, ?_⟩
    show pE 1 8 (t :: u :: r) = _
    obtain ⟨k1, k2⟩ := sgn_kind ht
    rw [pE8_sign _ _ _ k1, k2, if_neg (by decide), if_neg (by decide), if_pos (by rfl), if_pos (show nextS (u :: r) [93] = true from hu)]; rfl
  | set t u a x ht hu hd ih =>
    refine cpl_flat (by omega) fun r hr => ?_
    obtain ⟨m, x0, he, hs⟩ := ih.set rfl
    subst he
    obtain ⟨n, hn⟩ := hs (u :: r) _ (good_sgn hu (by decide)) (contS_end m x0 u r hu)
    refine ⟨n + 1, ?_⟩
    have el : t :: (a ++ [u]) ++ r = t :: (a ++ (u :: r)) := by simp
    obtain ⟨k1, k2⟩ := sgn_kind ht
    have hf : nextS (a ++ (u :: r)) [93] = false := by
      obtain ⟨t', r', h1', _, h2', _⟩ := der_first hd
      rw [h1']; exact h2'
    rw [el, pE8_sign _ _ _ k1, k2, if_neg (by decide), if_neg (by decide), if_pos (by rfl), hf, if_neg (by decide), hn]
  | rec0 t u ht hu =>
    refine cpl_flat (by omega) fun r hr => ⟨1, ?_⟩
    show pE 1 8 (t :: u :: r) = _
    obtain ⟨k1, k2⟩ := sgn_kind ht
    rw [pE8_sign _ _ _ k1, k2, if_neg (by decide), if_neg (by decide), if_neg (by decide), if_pos (by rfl), if_pos (show nextS (u :: r) [125] = true from hu)]; rfl
  | fields t u k nm a x ht hu hd ih =>
    refine cpl_flat (by omega) fun r hr => ?_
    obtain ⟨m, nm', x0, he, hs⟩ := ih.recd rfl
    obtain ⟨e1, e2, e3⟩ := mkN_six he
    subst e1 e2 e3
    obtain ⟨n, hn⟩ := hs (u :: r) _ (good_sgn hu (by decide)) (contK_end m nm x u r hu)
    refine ⟨n + 1, ?_⟩
    have el : t :: (a ++ [u]) ++ r = t :: (a ++ (u :: r)) := by simp
    obtain ⟨k1, k2⟩ := sgn_kind ht
    have hf : nextS (a ++ (u :: r)) [125] = false := by
      obtain ⟨t', r', h1', _, _, h2', _⟩ := der_first hd
      rw [h1']; exact h2'
    rw [el, pE8_sign _ _ _ k1, k2, if_neg (by decide), if_neg (by decide), if_neg (by decide), if_pos (by rfl), hf, if_neg (by decide), hn]
  | one a x _ ih => exact cpl_set ⟨0, x, rfl, fun r y hr hy => RunS.part (acc := []) (ih.flat (by omega) r hr) hy⟩
  | more t k a b x y ht _ _ iha ihb =>
    obtain ⟨m, x0, he, hs⟩ := iha.set rfl
    obtain ⟨e1, e2⟩ := mkN_five he
    subst e1 e2
    refine cpl_set ⟨m + 1, x ++ y, by push_cast; rfl, fun r z hr hz => ?_⟩
    have el : a ++ t :: b ++ r = a ++ (t :: (b ++ r)) := by simp
    rw [el]
    refine hs _ z (good_sgn ht (by decide)) ?_
    obtain ⟨n, hn⟩ := RunS.part (acc := x) (ihb.flat (by omega) r hr) hz
    refine ⟨n, ?_⟩
    have c : sgn t [93] = false := by rw [sgn_eq ht]; decide
    simp only [c, ht, if_true, Bool.false_eq_true, if_false]
    exact hn
  | fone u c b y hu hc hs _ ih => exact cpl_rec ⟨0, u.l, mkN 7 0 u.l [] :: y, rfl, fun r z hr hz => RunK.part (acc := []) hu hc hs (ih.flat (by omega) r hr) hz⟩
  | fmore t u c k nm a b x y ht hu hn hc _ _ iha ihb =>
    obtain ⟨m, nm', x0, he, hs⟩ := iha.recd rfl
    obtain ⟨e1, e2, e3⟩ := mkN_six he
    subst e1 e2 e3
    refine cpl_rec ⟨m + 1, u.l, x ++ (mkN 7 0 u.l [] :: y), by push_cast; rfl, fun r z hr hz => ?_⟩
    have el : a ++ t :: u :: c :: b ++ r = a ++ (t :: (u :: c :: (b ++ r))) := by simp
    rw [el]
    refine hs _ z (good_sgn (comR_sgn ht) (by decide)) ?_
    obtain ⟨n, hn'⟩ := RunK.part (acc := x) hu hn hc (ihb.flat (by omega) r hr) hz
    refine ⟨n, ?_⟩
    have c' : sgn t [125] = false := by rw [sgn_eq (comR_sgn ht)]; decide
    simp only [c', ht, if_true, Bool.false_eq_true, if_false]
    exact hn'

/-- A line is read as what it says, and no other way. -/
theorem prs_der {l : List Tk} {e : List Nd} (h : Der 0 l e) : prs l = .ok (e, []) := by
  obtain ⟨n, hn⟩ := (der_cpl h).flat (by omega) [] (good_nil 0)
  rw [List.append_nil] at hn
  exact prs_of hn
theorem der_prs {l : List Tk} {e : List Nd} (hk : AllK l) (h : prs l = .ok (e, [])) : Der 0 l e := by
  have h1 := prs_any (l := l) (Nat.le_refl _)
  rw [h] at h1
  obtain ⟨ts, h2, h3⟩ := (snd_all _).E 0 l (by omega) hk e [] h1
  rw [List.append_nil] at h2
  rw [h2]; exact h3
theorem der_unique {l : List Tk} {e e' : List Nd} (h : Der 0 l e) (h' : Der 0 l e') : e = e' := by
  have h1 := prs_der h
  rw [prs_der h'] at h1
  injection h1 with h1
  injection h1 with h1
  exact h1.symm
/-- What is read halts nowhere just where it is a line. -/
theorem acc_der {l : List Tk} {e : List Nd} {b : Tk} (hk : AllK l) (h : Der 0 l e) : acc ps0 b l = none := by
  have h1 := prs_any (l := l) (Nat.le_refl _)
  rw [prs_der h] at h1
  exact halt_ok hk h1
theorem der_acc {l : List Tk} {b : Tk} (hk : AllK l) (h : acc ps0 b l = none) : ∃ e, Der 0 l e := by
  have h1 := prs_any (l := l) (Nat.le_refl _)
  match hp : prs l with
  | .error e => rw [hp] at h1; rw [halt_error hk h1] at h; cases h
  | .ok (e, []) => exact ⟨e, der_prs hk hp⟩
  | .ok (e, t :: r) => rw [hp] at h1; rw [halt_more hk h1] at h; cases h
end Go.Proofs.YtpbnjdgedifnoabGreatDoor
namespace Go.Proofs.YtpbnjdgedifnoabGreatDoor
set_option linter.unusedVariables false

/-- The number of digits, counted. -/
def dv : List UInt8 → Nat
  | [] => 0
  | c :: r => (c.toNat - 48) * 10 ^ r.length + dv r
theorem dig_rng {c : UInt8} (h : digb c = true) : 48 ≤ c.toNat ∧ c.toNat ≤ 57 := by
  unfold digb at h; simpa using h
theorem dv_fold : ∀ (l : List UInt8) (a : Nat), l.all digb = true → l.foldl (fun (n : Int) c => n * 10 + ((c.toNat : Int) - 48)) (a : Int) = ((a * 10 ^ l.length + dv l : Nat) : Int)
  | [], a, _ => by simp [dv]
  | c :: r, a, h => by
    simp only [List.all_cons, Bool.and_eq_true] at h
    obtain ⟨h1, h2⟩ := dig_rng h.1
    have e : (a : Int) * 10 + ((c.toNat : Int) - 48) = ((a * 10 + (c.toNat - 48) : Nat) : Int) := by omega
    rw [List.foldl_cons, e, dv_fold r _ h.2]
    congr 1
    simp only [dv, List.length_cons, Nat.pow_succ]
    rw [Nat.add_mul, Nat.mul_assoc a 10, Nat.mul_comm 10 (10 ^ r.length), ← Nat.add_assoc]
theorem digV_dv {l : List UInt8} (h : l.all digb = true) : digV l = (dv l : Int) := by
  have := dv_fold l 0 h
  simpa [digV] using this
theorem dv_lt : ∀ l : List UInt8, l.all digb = true → dv l < 10 ^ l.length
  | [], _ => by simp [dv]
  | c :: r, h => by
    simp only [List.all_cons, Bool.and_eq_true] at h
    obtain ⟨h1, h2⟩ := dig_rng h.1
    have h3 := dv_lt r h.2
    simp only [dv, List.length_cons, Nat.pow_succ]
    have : (c.toNat - 48) * 10 ^ r.length ≤ 9 * 10 ^ r.length := Nat.mul_le_mul_right _ (by omega)
    omega
theorem dv_cmp : ∀ l m : List UInt8, l.all digb = true → m.all digb = true → l.length = m.length → (0 < Lib.compareBytes l m ↔ dv m < dv l)
  | [], [], _, _, _ => by simp [dv, Lib.compareBytes]
  | [], _ :: _, _, _, h => by simp at h
  | _ :: _, [], _, _, h => by simp at h
  | c :: l, d :: m, hl, hm, h => by
    simp only [List.all_cons, Bool.and_eq_true] at hl hm
    simp only [List.length_cons, Nat.add_right_cancel_iff] at h
    obtain ⟨c1, c2⟩ := dig_rng hl.1
    obtain ⟨d1, d2⟩ := dig_rng hm.1
    have hl' := dv_lt l hl.2
    have hm' := dv_lt m hm.2
    rw [cb_cons]
    simp only [dv]
    rw [← h] at hm' ⊢
    by_cases k1 : c < d
    · rw [if_pos k1]
      have k : c.toNat < d.toNat := k1
      have : (c.toNat - 48 + 1) * 10 ^ l.length ≤ (d.toNat - 48) * 10 ^ l.length := Nat.mul_le_mul_right _ (by omega)
      rw [Nat.add_mul] at this
      omega
    · rw [if_neg k1]
      by_cases k2 : d < c
      · rw [if_pos k2]
        have k : d.toNat < c.toNat := k2
        have : (d.toNat - 48 + 1) * 10 ^ l.length ≤ (c.toNat - 48) * 10 ^ l.length := Nat.mul_le_mul_right _ (by omega)
        rw [Nat.add_mul] at this
        omega
      · rw [if_neg k2]
        have k1' : ¬ c.toNat < d.toNat := k1
        have k2' : ¬ d.toNat < c.toNat := k2
        have e : c.toNat = d.toNat := by omega
        rw [e, dv_cmp l m hl.2 hm.2 h]
        omega

def most (minus : Bool) : List UInt8 := if minus then [57, 50, 50, 51, 51, 55, 50, 48, 51, 54, 56, 53, 52, 55, 55, 53, 56, 48, 56] else [57, 50, 50, 51, 51, 55, 50, 48, 51, 54, 56, 53, 52, 55, 55, 53, 56, 48, 55]
theorem most_dv (b : Bool) : (most b).all digb = true ∧ (most b).length = 19 ∧ dv (most b) = if b then 9223372036854775808 else 9223372036854775807 := by cases b <;> decide
theorem great_iff {t : Tk} {b : Bool} (h : t.l.all digb = true) (hl : t.l.length ≤ 19) : great t b = true ↔ (if b then 9223372036854775808 else 9223372036854775807) < dv t.l := by
  obtain ⟨m1, m2, m3⟩ := most_dv b
  have e : great t b = (t.l.length == 19 && decide (0 < Lib.compareBytes t.l (most b))) := rfl
  rw [e, ← m3]
  by_cases k : t.l.length = 19
  · have k' : (t.l.length == 19) = true := by simpa using k
    rw [k', Bool.true_and, decide_eq_true_iff, dv_cmp _ _ h m1 (by omega)]
  · have k' : (t.l.length == 19) = false := by simpa using k
    rw [k', Bool.false_and]
    have h1 := dv_lt _ h
    have h2 : 10 ^ t.l.length ≤ 10 ^ 18 := Nat.pow_le_pow_right (by decide) (by omega)
    rw [m3]
    constructor
    · intro h; cases h
    · intro h3
      exfalso
      have : (10 : Nat) ^ 18 = 1000000000000000000 := by decide
      cases b <;> simp at h3 <;> omega

/-- A number's digits. -/
def decL (n : Nat) : List UInt8 := if h : n < 10 then [UInt8.ofNat (48 + n)] else decL (n / 10) ++ [UInt8.ofNat (48 + n % 10)]
termination_by n
decreasing_by omega
theorem dig_of {k : Nat} (h : k < 10) : digb (UInt8.ofNat (48 + k)) = true ∧ (UInt8.ofNat (48 + k)).toNat = 48 + k := by
  have e : (UInt8.ofNat (48 + k)).toNat = 48 + k := by
    rw [UInt8.toNat_ofNat']; omega
  refine ⟨?_, e⟩
  unfold digb; rw [e]; simp; omega
theorem dv_snoc : ∀ (l : List UInt8) (c : UInt8), dv (l ++ [c]) = dv l * 10 + (c.toNat - 48)
  | [], c => by simp [dv]
  | d :: l, c => by
    simp only [List.cons_append, dv, dv_snoc l c, List.length_append, List.length_cons, List.length_nil, Nat.pow_succ]
    rw [Nat.add_mul, ← Nat.add_assoc]
    simp only [Nat.mul_assoc]
theorem decL_small {n : Nat} (h : n < 10) : decL n = [UInt8.ofNat (48 + n)] := by rw [decL, dif_pos h]
theorem decL_big {n : Nat} (h : ¬ n < 10) : decL n = decL (n / 10) ++ [UInt8.ofNat (48 + n % 10)] := by rw [decL, dif_neg h]
theorem decL_dig (n : Nat) : (decL n).all digb = true := by
  induction n using Nat.strongRecOn with
  | _ n ih =>
    by_cases h : n < 10
    · rw [decL_small h, List.all_cons, (dig_of h).1]; rfl
    · rw [decL_big h, List.all_append, ih (n / 10) (by omega)]
      rw [List.all_cons, (dig_of (show n % 10 < 10 by omega)).1]; rfl
theorem decL_dv (n : Nat) : dv (decL n) = n := by
  induction n using Nat.strongRecOn with
  | _ n ih =>
    by_cases h : n < 10
    · rw [decL_small h]; simp only [dv, (dig_of h).2, List.length_nil]; omega
    · rw [decL_big h, dv_snoc, ih (n / 10) (by omega), (dig_of (show n % 10 < 10 by omega)).2]; omega
theorem decL_ne (n : Nat) : decL n ≠ [] := by
  by_cases h : n < 10
  · rw [decL_small h]; simp
  · rw [decL_big h]; simp
theorem decL_len : ∀ (k n : Nat), n < 10 ^ (k + 1) → (decL n).length ≤ k + 1
  | 0, n, h => by rw [decL_small (by omega)]; simp
  | k + 1, n, h => by
    by_cases h1 : n < 10
    · rw [decL_small h1]; simp
    · rw [decL_big h1, List.length_append]
      have := decL_len k (n / 10) (by rw [Nat.pow_succ] at h; omega)
      simp; omega
/-- No 0 stands ahead. -/
theorem decL_head (n : Nat) (h : 0 < n) : ∃ c r, decL n = c :: r ∧ c.toNat ≠ 48 := by
  induction n using Nat.strongRecOn with
  | _ n ih =>
    by_cases h1 : n < 10
    · rw [decL_small h1]; exact ⟨_, [], rfl, by rw [(dig_of h1).2]; omega⟩
    · obtain ⟨c, r, e, hc⟩ := ih (n / 10) (by omega) (by omega)
      rw [decL_big h1, e]; exact ⟨c, r ++ _, rfl, hc⟩
theorem decL_zero (n : Nat) : dig0 (decL n) = decL n := by
  by_cases h : n < 10
  · rw [decL_small h]; rfl
  · obtain ⟨c, r, e, hc⟩ := decL_head n (by omega)
    rw [e]
    cases r with
    | nil => rfl
    | cons d r =>
      have : (c.toNat == 48) = false := by simpa using hc
      simp only [dig0, this, Bool.false_eq_true, if_false]

/-- The word of a number. -/
def numW (n : Nat) : Tk := mkT 2 (decL n) 0
theorem numW_l (n : Nat) : (numW n).l = decL n := rfl
theorem numW_great {n : Nat} {b : Bool} (h : n ≤ if b then 9223372036854775808 else 9223372036854775807) : great (numW n) b = false := by
  cases hg : great (numW n) b with
  | false => rfl
  | true =>
    rw [great_iff (by rw [numW_l]; exact decL_dig n) (by rw [numW_l]; exact decL_len 18 n (by cases b <;> simp at h <;> omega)), numW_l, decL_dv] at hg
    omega
theorem numW_val (n : Nat) (b : Bool) : numN (numW n) b = mkN 2 (if b then - (n : Int) else n) [] [] := by
  unfold numN
  rw [numW_l, digV_dv (decL_dig n), decL_dv]
end Go.Proofs.YtpbnjdgedifnoabGreatDoor
namespace Go.Proofs.YtpbnjdgedifnoabGreatDoor
set_option linter.unusedVariables false

def nmW (l : List UInt8) : Tk := mkT 1 l 0
def sgW (l : List UInt8) : Tk := mkT 5 l 0
def qtW (l : List UInt8) : Tk := mkT 3 l 0
def opX (v : List Nd) : Int := match v with | [] => 0 | x :: _ => x.op
/-- The form of what a node is. -/
def lvO (op : Int) : Nat :=
  if op = 13 then 0 else if op = 12 then 1 else if op = 11 then 2
  else if 14 ≤ op ∧ op ≤ 16 ∨ 20 ≤ op ∧ op ≤ 24 ∧ op ≠ 22 then 3
  else if op = 17 ∨ op = 18 then 4 else if op = 19 then 5 else if op = 9 ∨ op = 10 then 6 else if 22 ≤ op ∧ op ≤ 27 then 7 else 8
theorem lvO_le (op : Int) : lvO op ≤ 8 := by unfold lvO; repeat' split
                                             all_goals omega
def brk (ts : List Tk) : List Tk := sgW [40] :: (ts ++ [sgW [41]])
/-- The word between. -/
def signW (op : Int) : Tk :=
  if op = 12 then sgW [124, 124] else if op = 11 then sgW [38, 38] else if op = 14 then sgW [61, 61] else if op = 15 then sgW [60] else if op = 16 then sgW [60, 61]
  else if op = 20 then nmW wIn else if op = 17 then sgW [43] else if op = 18 then sgW [45] else sgW [42]
def callW (op : Int) : List UInt8 := if op = 26 then wAll else if op = 27 then wAny else wOne
def nxtE (f : Nat) (v : List Nd) : List Nd := (pastE f v).getD []
/-- In brackets, if its form is below. -/
def partW (w : List Nd → List Tk) (least : Nat) (v : List Nd) : List Tk := if lvO (opX v) < least then brk (w v) else w v
def negW (ts : List Tk) : List Tk := if nextNum ts = true then brk ts else ts
def setW (w : List Nd → List Tk) (nx : List Nd → List Nd) : Nat → List Nd → List Tk
  | 0, _ => []
  | k + 1, v => w v ++ (if k = 0 then [] else sgW [44] :: setW w nx k (nx v))
def recW (w : List Nd → List Tk) (nx : List Nd → List Nd) : Nat → List Nd → List Tk
  | 0, _ => []
  | k + 1, [] => []
  | k + 1, x :: v => nmW x.s.data.toList :: sgW [58] :: (w v ++ (if k = 0 then [] else sgW [44] :: recW w nx k (nx v)))
def atomW (x : Nd) : List Tk :=
  if x.op = 1 then [nmW (if x.n = 1 then wTrue else wFalse)]
  else if x.op = 2 then (if x.n < 0 then [sgW [45], numW x.n.natAbs] else [numW x.n.natAbs])
  else if x.op = 3 then [qtW x.s.data.toList]
  else if x.op = 4 then [nmW x.s.data.toList, sgW [58, 58], qtW x.t.data.toList]
  else if x.s.data.toList.head? = some 63 then [mkT 4 x.s.data.toList.tail 0] else [nmW x.s.data.toList]
/-- The words of the expression that a list begins with. -/
def wdE : Nat → List Nd → List Tk
  | 0, _ => []
  | _ + 1, [] => []
  | f + 1, x :: m =>
    if x.op = 13 then nmW wIf :: (wdE f m ++ nmW wThen :: (wdE f (nxtE f m) ++ nmW wElse :: wdE f (nxtE f (nxtE f m))))
    else if lvO x.op = 1 ∨ lvO x.op = 2 ∨ lvO x.op = 4 ∨ lvO x.op = 5 then partW (wdE f) (lvO x.op) m ++ signW x.op :: partW (wdE f) (lvO x.op + 1) (nxtE f m)
    else if lvO x.op = 3 then
      (if x.op = 21 then partW (wdE f) 4 m ++ [nmW wHas, nmW x.s.data.toList]
       else if x.op = 24 then partW (wdE f) 4 m ++ [nmW wIs, nmW x.s.data.toList]
       else if x.op = 23 then partW (wdE f) 4 m ++ [nmW wLike, qtW x.s.data.toList]
       else partW (wdE f) 4 m ++ signW x.op :: partW (wdE f) 4 (nxtE f m))
    else if x.op = 9 then sgW [33] :: partW (wdE f) 6 m
    else if x.op = 10 then sgW [45] :: negW (partW (wdE f) 6 m)
    else if lvO x.op = 7 then
      (if x.op = 22 then partW (wdE f) 7 m ++ [sgW [46], nmW x.s.data.toList]
       else partW (wdE f) 7 m ++ sgW [46] :: nmW (callW x.op) :: brk (wdE f (nxtE f m)))
    else if x.op = 5 then sgW [91] :: (setW (wdE f) (nxtE f) x.n.toNat m ++ [sgW [93]])
    else if x.op = 6 then sgW [123] :: (recW (wdE f) (nxtE f) x.n.toNat m ++ [sgW [125]])
    else atomW x

theorem nd_eq (x : Nd) : x = mkN x.op x.n x.s.data.toList x.t.data.toList := by
  unfold mkN
  cases x; rfl
theorem data_nil {s : ByteArray} (h : s.data.toList.isEmpty = true) : s.data.toList = [] := by simpa using h
theorem der_down {l : Nat} {a : List Tk} {x : List Nd} (h : Der l a x) (hl : l ≤ 8) : ∀ k, k ≤ l → Der (l - k) a x
  | 0, _ => h
  | k + 1, hk => by
    have h1 := der_down h hl k (by omega)
    have e : l - k = l - (k + 1) + 1 := by omega
    rw [e] at h1
    exact Der.up _ _ _ (by omega) h1
theorem der_to {l m : Nat} {a : List Tk} {x : List Nd} (h : Der l a x) (hl : l ≤ 8) (hm : m ≤ l) : Der m a x := by
  have := der_down h hl (l - m) (by omega)
  have e : l - (l - m) = m := by omega
  rw [e] at this; exact this
theorem der_brk {a : List Tk} {x : List Nd} (h : Der 0 a x) {m : Nat} (hm : m ≤ 8) : Der m (brk a) x := der_to (Der.round _ _ a x rfl rfl h) (by omega) hm

/-- A number of 64 bits. -/
def n64 (x : Nd) : Prop := x.op = 2 → -9223372036854775808 ≤ x.n ∧ x.n ≤ 9223372036854775807
/-- What the words of the expression at the front say. -/
def WD (f : Nat) (v r : List Nd) : Prop := ∃ a, v = a ++ r ∧ Der (lvO (opX v)) (wdE f v) a
theorem WD.part {f : Nat} {v r : List Nd} (h : WD f v r) (least : Nat) (hl : least ≤ 8) : ∃ a, v = a ++ r ∧ Der least (partW (wdE f) least v) a := by
  obtain ⟨a, h1, h2⟩ := h
  refine ⟨a, h1, ?_⟩
  unfold partW
  split
  · exact der_brk (der_to h2 (lvO_le _) (by omega)) hl
  · exact der_to h2 (lvO_le _) (by omega)
theorem WD.zero {f : Nat} {v r : List Nd} (h : WD f v r) : ∃ a, v = a ++ r ∧ Der 0 (wdE f v) a := by
  obtain ⟨a, h1, h2⟩ := h
  exact ⟨a, h1, der_to h2 (lvO_le _) (by omega)⟩
theorem partsE_one {pv : List Nd → Option (List Nd)} {k : Nat} {v r : List Nd} (h : partsE pv (k + 1) v = some r) : ∃ s, pv v = some s ∧ partsE pv k s = some r := by
  simp only [partsE] at h
  cases e : pv v with
  | none => rw [e] at h; cases h
  | some s => rw [e] at h; exact ⟨s, rfl, h⟩
theorem partsE_end {pv : List Nd → Option (List Nd)} {v r : List Nd} (h : partsE pv 0 v = some r) : v = r := by simpa [partsE] using h
theorem nxt_of {f : Nat} {v r : List Nd} (h : pastE f v = some r) : nxtE f v = r := by unfold nxtE; rw [h]; rfl

theorem setW_more {f : Nat} (ih : ∀ v r, pastE f v = some r → (∀ x ∈ v, n64 x) → WD f v r) : ∀ (k : Nat) (m r : List Nd) (p : List Tk) (j : Int) (acc : List Nd), (∀ x ∈ m, n64 x) → Der 9 p (mkN 5 j [] [] :: acc) →
    partsE (pastE f) (k + 1) m = some r → ∃ a, m = a ++ r ∧ Der 9 (p ++ sgW [44] :: setW (wdE f) (nxtE f) (k + 1) m) (mkN 5 (j + (k + 1)) [] [] :: (acc ++ a))
  | k, m, r, p, j, acc, hN, hp, h => by
    obtain ⟨s, h1, h2⟩ := partsE_one h
    obtain ⟨a, e1, h3⟩ := (ih m s h1 hN).zero
    have hm := Der.more (sgW [44]) j p (wdE f m) acc a rfl hp h3
    cases k with
    | zero =>
      have := partsE_end h2
      subst this
      refine ⟨a, e1, ?_⟩
      simpa [setW] using hm
    | succ k =>
      obtain ⟨a', e2, h4⟩ := setW_more ih k s r _ _ _ (fun x hx => hN x (by rw [e1]; exact List.mem_append_right _ hx)) hm h2
      refine ⟨a ++ a', by rw [e1, e2, List.append_assoc], ?_⟩
      have e3 : p ++ sgW [44] :: setW (wdE f) (nxtE f) (k + 1 + 1) m = p ++ sgW [44] :: wdE f m ++ sgW [44] :: setW (wdE f) (nxtE f) (k + 1) s := by
        rw [setW, if_neg (by omega), nxt_of h1]; simp
      have e4 : j + 1 + ((k : Int) + 1) = j + (((k + 1 : Nat) : Int) + 1) := by omega
      rw [e3, ← List.append_assoc, ← e4]
      exact h4
theorem setW_der {f : Nat} (ih : ∀ v r, pastE f v = some r → (∀ x ∈ v, n64 x) → WD f v r) (k : Nat) (m r : List Nd) (hN : ∀ x ∈ m, n64 x) (h : partsE (pastE f) (k + 1) m = some r) :
    ∃ a, m = a ++ r ∧ Der 9 (setW (wdE f) (nxtE f) (k + 1) m) (mkN 5 ((k : Int) + 1) [] [] :: a) := by
  obtain ⟨s, h1, h2⟩ := partsE_one h
  obtain ⟨a, e1, h3⟩ := (ih m s h1 hN).zero
  have hm := Der.one (wdE f m) a h3
  cases k with
  | zero =>
    have := partsE_end h2
    subst this
    refine ⟨a, e1, ?_⟩
    simpa [setW] using hm
  | succ k =>
    obtain ⟨a', e2, h4⟩ := setW_more ih k s r _ _ _ (fun x hx => hN x (by rw [e1]; exact List.mem_append_right _ hx)) hm h2
    refine ⟨a ++ a', by rw [e1, e2, List.append_assoc], ?_⟩
    have e3 : setW (wdE f) (nxtE f) (k + 1 + 1) m = wdE f m ++ sgW [44] :: setW (wdE f) (nxtE f) (k + 1) s := by
      rw [setW, if_neg (by omega), nxt_of h1]
    have e4 : 1 + ((k : Int) + 1) = ((k + 1 : Nat) : Int) + 1 := by omega
    rw [e3, ← e4]
    exact h4

theorem recLoop_one {pv : List Nd → Option (List Nd)} {k : Nat} {last : ByteArray} {v r : List Nd} (h : recLoop pv (k + 1) last v = some r) : ∃ x m s, v = x :: m ∧ x.op = 7 ∧ ndOk x = true ∧ cmpB last x.s < 0 ∧ pv m = some s ∧ recLoop pv k x.s s = some r := by
  cases v with
  | nil => simp [recLoop] at h
  | cons x m =>
    simp only [recLoop] at h
    split at h
    · rename_i hc
      cases e : pv m with
      | none => rw [e] at h; cases h
      | some s => rw [e] at h; exact ⟨x, m, s, rfl, hc.1, hc.2.1, hc.2.2, e, h⟩
    · cases h
theorem recLoop_none {pv : List Nd → Option (List Nd)} {last : ByteArray} {v r : List Nd} (h : recLoop pv 0 last v = some r) : v = r := by simpa [recLoop] using h
theorem field_eq {x : Nd} (h7 : x.op = 7) (h : ndOk x = true) : x = mkN 7 0 x.s.data.toList [] := by
  have h' := nd_eq x
  unfold ndOk at h
  rw [h7] at h
  simp at h
  rw [h7, h.1.1, show x.t.data.toList = [] from by simpa using h.1.2] at h'
  exact h'
theorem last_ge : ∀ (n : Nat) (l : List UInt8), l.length ≤ n → (∀ c ∈ l, c.toNat ≤ 122) → ¬ Lib.compareBytes (List.replicate n 122) l < 0
  | 0, [], _, _ => by simp [Lib.compareBytes]
  | n + 1, [], _, _ => by simp [List.replicate_succ, Lib.compareBytes]
  | 0, c :: r, h, _ => by simp at h
  | n + 1, c :: r, h, hc => by
    have h1 := hc c (List.mem_cons_self ..)
    have h2 : ¬ (122 : UInt8) < c := by rw [UInt8.lt_iff_toNat_lt]; simp; omega
    rw [List.replicate_succ, Lib.compareBytes, if_neg h2]
    split
    · decide
    · exact last_ge n r (by simp at h; omega) (fun d hd => hc d (List.mem_cons_of_mem _ hd))
theorem name_low {l : List UInt8} (h : nfault l = 0) : l.length ≤ 20 ∧ ∀ c ∈ l, c.toNat ≤ 122 := by
  unfold nfault at h
  split at h
  · rename_i hn
    split at h
    · cases h
    · refine ⟨by omega, ?_⟩
      unfold nm at hn
      rw [Bool.and_eq_true] at hn
      cases l with
      | nil => intro c hc; cases hc
      | cons a r =>
        have hp := hn.1
        simp only [pre, Bool.and_eq_true, List.all_eq_true] at hp
        intro c hc
        rcases List.mem_cons.1 hc with e | e
        · subst e
          have := hp.1
          unfold letb at this
          simp at this; omega
        · have := hp.2 c e
          unfold letb digb at this
          simp at this; omega
  · cases h
/-- Behind the last name there is none. -/
theorem com_field {x : Nd} {nm : ByteArray} (h7 : x.op = 7) (h : ndOk x = true) (hc : cmpB nm x.s < 0) : comR nm.data.toList (sgW [44]) = true := by
  have hn : nfault x.s.data.toList = 0 := by
    unfold ndOk at h
    rw [h7] at h
    simp at h
    exact h.2
  have hne : nm.data.toList ≠ wLast := by
    intro e
    obtain ⟨h1, h2⟩ := name_low hn
    unfold cmpB at hc
    rw [e] at hc
    exact last_ge 20 _ h1 h2 hc
  unfold comR
  rw [show sgn (sgW [44]) [44] = true from rfl, show (nm.data.toList == wLast) = false from by simpa using hne]
  rfl
theorem recW_more {f : Nat} (ih : ∀ v r, pastE f v = some r → (∀ x ∈ v, n64 x) → WD f v r) : ∀ (k : Nat) (m r : List Nd) (p : List Tk) (j : Int) (nm : ByteArray) (acc : List Nd), (∀ x ∈ m, n64 x) → Der 10 p (mkN 6 j nm.data.toList [] :: acc) →
    recLoop (pastE f) (k + 1) nm m = some r → ∃ a nm', m = a ++ r ∧ Der 10 (p ++ sgW [44] :: recW (wdE f) (nxtE f) (k + 1) m) (mkN 6 (j + (k + 1)) nm' [] :: (acc ++ a))
  | k, m, r, p, j, nm, acc, hN, hp, h => by
    obtain ⟨x, m', s, e0, h7, hx, hc, h1, h2⟩ := recLoop_one h
    subst e0
    obtain ⟨a, e1, h3⟩ := (ih m' s h1 (fun y hy => hN y (List.mem_cons_of_mem _ hy))).zero
    have hm := Der.fmore (sgW [44]) (nmW x.s.data.toList) (sgW [58]) j nm.data.toList p (wdE f m') acc a (com_field h7 hx hc) rfl hc rfl hp h3
    have el : (nmW x.s.data.toList).l = x.s.data.toList := rfl
    rw [el, ← field_eq h7 hx] at hm
    cases k with
    | zero =>
      have := recLoop_none h2
      subst this
      refine ⟨x :: a, x.s.data.toList, by rw [e1]; rfl, ?_⟩
      simpa [recW] using hm
    | succ k =>
      obtain ⟨a', nm', e2, h4⟩ := recW_more ih k s r _ _ _ _ (fun y hy => hN y (by rw [e1]; exact List.mem_cons_of_mem _ (List.mem_append_right _ hy))) hm h2
      refine ⟨x :: (a ++ a'), nm', by rw [e1, e2]; simp, ?_⟩
      have e3 : p ++ sgW [44] :: recW (wdE f) (nxtE f) (k + 1 + 1) (x :: m') = p ++ sgW [44] :: nmW x.s.data.toList :: sgW [58] :: wdE f m' ++ sgW [44] :: recW (wdE f) (nxtE f) (k + 1) s := by
        rw [recW, if_neg (by omega), nxt_of h1]; simp
      have e4 : j + 1 + ((k : Int) + 1) = j + (((k + 1 : Nat) : Int) + 1) := by omega
      have e5 : acc ++ x :: (a ++ a') = acc ++ x :: a ++ a' := by simp
      rw [e3, ← e4, e5]
      exact h4
theorem recW_der {f : Nat} (ih : ∀ v r, pastE f v = some r → (∀ x ∈ v, n64 x) → WD f v r) (k : Nat) (m r : List Nd) (hN : ∀ x ∈ m, n64 x) (h : recLoop (pastE f) (k + 1) ⟨#[]⟩ m = some r) :
    ∃ a nm, m = a ++ r ∧ Der 10 (recW (wdE f) (nxtE f) (k + 1) m) (mkN 6 ((k : Int) + 1) nm [] :: a) := by
  obtain ⟨x, m', s, e0, h7, hx, hc, h1, h2⟩ := recLoop_one h
  subst e0
  obtain ⟨a, e1, h3⟩ := (ih m' s h1 (fun y hy => hN y (List.mem_cons_of_mem _ hy))).zero
  have hm := Der.fone (nmW x.s.data.toList) (sgW [58]) (wdE f m') a rfl hc rfl h3
  have el : (nmW x.s.data.toList).l = x.s.data.toList := rfl
  rw [el, ← field_eq h7 hx] at hm
  cases k with
  | zero =>
    have := recLoop_none h2
    subst this
    refine ⟨x :: a, x.s.data.toList, by rw [e1]; rfl, ?_⟩
    simpa [recW] using hm
  | succ k =>
    obtain ⟨a', nm', e2, h4⟩ := recW_more ih k s r _ _ _ _ (fun y hy => hN y (by rw [e1]; exact List.mem_cons_of_mem _ (List.mem_append_right _ hy))) hm h2
    refine ⟨x :: (a ++ a'), nm', by rw [e1, e2]; simp, ?_⟩
    have e3 : recW (wdE f) (nxtE f) (k + 1 + 1) (x :: m') = nmW x.s.data.toList :: sgW [58] :: wdE f m' ++ sgW [44] :: recW (wdE f) (nxtE f) (k + 1) s := by
      rw [recW, if_neg (by omega), nxt_of h1]; simp
    have e4 : 1 + ((k : Int) + 1) = ((k + 1 : Nat) : Int) + 1 := by omega
    have e5 : x :: (a ++ a') = x :: a ++ a' := by simp
    rw [e3, ← e4, e5]
    exact h4
end Go.Proofs.YtpbnjdgedifnoabGreatDoor
