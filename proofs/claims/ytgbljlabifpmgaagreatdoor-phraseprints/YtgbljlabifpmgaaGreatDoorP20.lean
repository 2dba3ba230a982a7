import Derived.Test.YtgbljlabifpmgaaGreatDoorP14
import Derived.Test.YtgbljlabifpmgaaGreatDoorP1
import Derived.KernelRfl
set_option linter.unusedVariables false
set_option maxHeartbeats 12000000
namespace Go.Proofs.YtgbljlabifpmgaaGreatDoor
abbrev PR:=Option (Except (Nat×Int) (List Nd×List Tk))
def Ple (A B:PR):Prop:=∀x,A=some x→B=some x
theorem Ple.refl (A:PR):Ple A A:=fun _ h=>h
theorem Ple.none (B:PR):Ple Option.none B:=fun _ h=>by cases h
theorem Ple.ite {c:Prop}[Decidable c]{A A' B B':PR}(h1:Ple A A')(h2:Ple B B'):Ple (if c then A else B) (if c then A' else B'):=by
 split
 · exact h1
 · exact h2
theorem Ple.and {A A':PR}{f f':List Nd→List Tk→PR}(h1:Ple A A')(h2:∀a r,Ple (f a r) (f' a r)):Ple (andR A f) (andR A' f'):=by
 intro x hx
 unfold andR at hx
 match A,h1,hx with
 | Option.none,_,hx=>cases hx
 | some (.error e),h1,hx=>unfold andR;rw[h1 _ rfl];exact hx
 | some (.ok y),h1,hx=>unfold andR;rw[h1 _ rfl];exact h2 _ _ _ hx
theorem Ple.must {p:Tk→Bool}{l:List Tk}{f f':Tk→List Tk→PR}(h:∀t r,Ple (f t r) (f' t r)):Ple (must p l f) (must p l f'):=by
 unfold Go.Proofs.YtgbljlabifpmgaaGreatDoor.must
 cases l with
 | nil=>exact Ple.refl _
 | cons t r=>exact Ple.ite (h t r) (Ple.refl _)
structure Mono (n m:Nat):Prop where
 E:∀lvl l,Ple (pE n lvl l) (pE m lvl l)
 L:∀lvl a l,Ple (pL n lvl a l) (pL m lvl a l)
 P:∀a l,Ple (pP n a l) (pP m a l)
 S:∀k acc l,Ple (pS n k acc l) (pS m k acc l)
 K:∀k nm acc l,Ple (pK n k nm acc l) (pK m k nm acc l)
theorem mono_all:∀n m,n≤m→Mono n m
 | 0,m,_=>by constructor<;>intros<;>(first | rw[pE] | rw[pL] | rw[pP] | rw[pS] | rw[pK])<;>exact Ple.none _
 | n+1,0,h=>absurd h (by omega)
 | n+1,m+1,h=>by
   have ih:=mono_all n m (by omega)
   constructor
   · intro lvl l
     rw[pE.eq_def,pE.eq_def]
     simp only
     refine Ple.ite ?_ (Ple.ite ?_ (Ple.ite ?_ (Ple.ite ?_ (Ple.ite ?_ ?_))))
     · cases l with
       | nil=>exact ih.E _ _
       | cons t r=>
         exact Ple.ite (Ple.and (ih.E _ _) fun a r1=>Ple.must fun _ r2=>Ple.and (ih.E _ _) fun b r3=>Ple.must fun _ r4=>Ple.and (ih.E _ _) fun c r5=>Ple.refl _) (ih.E _ _)
     · exact Ple.and (ih.E _ _) fun a r=>ih.L _ _ _
     · refine Ple.and (ih.E _ _) fun a r=>?_
       cases r with
       | nil=>exact Ple.refl _
       | cons t r1=>exact Ple.ite (Ple.and (ih.E _ _) fun b r2=>Ple.refl _) (Ple.refl _)
     · cases l with
       | nil=>exact ih.E _ _
       | cons t r=>exact Ple.ite (Ple.and (ih.E _ _) fun a r1=>Ple.refl _) (Ple.ite (Ple.and (ih.E _ _) fun a r1=>Ple.refl _) (ih.E _ _))
     · exact Ple.and (ih.E _ _) fun a r=>ih.P _ _
     · cases l with
       | nil=>exact Ple.refl _
       | cons t r=>
         refine Ple.ite (Ple.refl _) (Ple.ite (Ple.refl _) (Ple.ite (Ple.refl _) (Ple.ite (Ple.refl _) (Ple.ite (Ple.refl _) (Ple.ite ?_ (Ple.ite ?_ (Ple.ite ?_ (Ple.refl _))))))))
         · exact Ple.and (ih.E _ _) fun a r1=>Ple.refl _
         · exact Ple.ite (Ple.refl _) (ih.S _ _ _)
         · exact Ple.ite (Ple.refl _) (ih.K _ _ _ _)
   · intro lvl a l
     rw[pL.eq_def,pL.eq_def]
     cases l with
     | nil=>exact Ple.refl _
     | cons t r=>exact Ple.ite (Ple.and (ih.E _ _) fun b r1=>ih.L _ _ _) (Ple.refl _)
   · intro a l
     rw[pP.eq_def,pP.eq_def]
     cases l with
     | nil=>exact Ple.refl _
     | cons t r=>exact Ple.ite (Ple.must fun u r1=>Ple.ite (Ple.and (ih.E _ _) fun b r2=>Ple.must fun _ r3=>ih.P _ _) (ih.P _ _)) (Ple.refl _)
   · intro k acc l
     rw[pS.eq_def,pS.eq_def]
     refine Ple.and (ih.E _ _) fun a r=>?_
     cases r with
     | nil=>exact Ple.refl _
     | cons t r1=>exact Ple.ite (Ple.refl _) (Ple.ite (ih.S _ _ _) (Ple.refl _))
   · intro k nm acc l
     rw[pK.eq_def,pK.eq_def]
     refine Ple.must fun u r0=>Ple.must fun _ r1=>Ple.and (ih.E _ _) fun a r=>?_
     cases r with
     | nil=>exact Ple.refl _
     | cons t r1=>exact Ple.ite (Ple.refl _) (Ple.ite (ih.K _ _ _ _) (Ple.refl _))
def Fin (m:Nat)(A:PR):Prop:=A≠none∧∀e r,A=some (.ok (e,r))→r.length≤m
theorem Fin.err {m:Nat}{e:Nat×Int}:Fin m (some (.error e)):=⟨by simp,fun _ _ h=>by cases h⟩
theorem Fin.ok {m:Nat}{e:List Nd}{r:List Tk}(h:r.length≤m):Fin m (some (.ok (e,r))):=⟨by simp,fun e' r' h'=>by
 injection h' with h';injection h' with h';injection h' with _ h';subst h';exact h⟩
theorem Fin.ite {m:Nat}{c:Prop}[Decidable c]{A B:PR}(h1:c→Fin m A)(h2:¬c→Fin m B):Fin m (if c then A else B):=by
 split
 · exact h1 (by assumption)
 · exact h2 (by assumption)
theorem Fin.and {m k:Nat}{A:PR}{f:List Nd→List Tk→PR}(h1:Fin k A)(h2:∀a r,r.length≤k→Fin m (f a r)):Fin m (andR A f):=by
 unfold andR
 match A,h1 with
 | Option.none,h1=>exact absurd rfl h1.1
 | some (.error e),_=>exact Fin.err
 | some (.ok y),h1=>exact h2 _ _ (h1.2 y.1 y.2 rfl)
theorem Fin.must {m:Nat}{p:Tk→Bool}{l:List Tk}{f:Tk→List Tk→PR}(h:∀t r,l.length=r.length+1→Fin m (f t r)):Fin m (must p l f):=by
 unfold Go.Proofs.YtgbljlabifpmgaaGreatDoor.must
 cases l with
 | nil=>exact Fin.err
 | cons t r=>exact Fin.ite (fun _=>h t r rfl) (fun _=>Fin.err)
theorem Fin.le {m k:Nat}{A:PR}(h:Fin k A)(hk:k≤m):Fin m A:=⟨h.1,fun e r he=>Nat.le_trans (h.2 e r he) hk⟩
structure Enough (n:Nat):Prop where
 E:∀lvl l,lvl≤8→10*l.length+10≤n+lvl→Fin (l.length-1) (pE n lvl l)
 L:∀lvl a l,lftL lvl→10*l.length+1≤n→Fin l.length (pL n lvl a l)
 P:∀a l,10*l.length+1≤n→Fin l.length (pP n a l)
 S:∀k acc l,10*l.length+11≤n→Fin l.length (pS n k acc l)
 K:∀k nm acc l,10*l.length+1≤n→Fin l.length (pK n k nm acc l)
theorem tail_len (l:List Tk):l.tail.length=l.length-1:=by cases l<;>simp
theorem enough_all:∀n,Enough n
 | 0=>by constructor<;>intros<;>exfalso<;>omega
 | n+1=>by
   have ih:=enough_all n
   constructor
   · intro lvl l hl hn
     cases l with
     | nil=>
       rw[pE.eq_def]
       simp only
       refine Fin.ite (fun h0=>?_) fun h0=>Fin.ite (fun h1=>?_) fun h1=>Fin.ite (fun h3=>?_) fun h3=>Fin.ite (fun h6=>?_) fun h6=>Fin.ite (fun h7=>?_) fun h7=>?_
       · exact ih.E 1 [] (by omega) (by simp at hn ⊢; omega)
       · refine Fin.and (k:=0) (ih.E (lvl+1) [] (by omega) (by simp at hn ⊢; omega)) fun a r hr=>Fin.le (ih.L lvl a r h1 (by simp at hn;omega)) hr
       · refine Fin.and (k:=0) (ih.E 4 [] (by omega) (by simp at hn ⊢; omega)) fun a r hr=>?_
         cases r with
         | nil=>exact Fin.ok (by simp)
         | cons t r1=>simp at hr
       · exact ih.E 7 [] (by omega) (by simp at hn ⊢; omega)
       · refine Fin.and (k:=0) (ih.E 8 [] (by omega) (by simp at hn ⊢; omega)) fun a r hr=>Fin.le (ih.P a r (by simp at hn;omega)) hr
       · exact Fin.err
     | cons t r=>
       simp only[List.length_cons]at hn ⊢
       have hm:r.length+1-1=r.length:=rfl
       rw[hm,pE.eq_def]
       simp only
       refine Fin.ite (fun h0=>?_) fun h0=>Fin.ite (fun h1=>?_) fun h1=>Fin.ite (fun h3=>?_) fun h3=>Fin.ite (fun h6=>?_) fun h6=>Fin.ite (fun h7=>?_) fun h7=>?_
       · refine Fin.ite (fun _=>?_) fun _=>ih.E 1 (t::r) (by omega) (by simp only[List.length_cons];omega)
         refine Fin.and (ih.E 0 r (by omega) (by omega)) fun a r1 h1=>Fin.must fun _ r2 h2=>Fin.and (ih.E 0 r2 (by omega) (by omega)) fun b r3 h3=>Fin.must fun _ r4 h4=>
          Fin.and (ih.E 0 r4 (by omega) (by omega)) fun c r5 h5=>Fin.ok (by omega)
       · exact Fin.and (ih.E (lvl+1) (t::r) (by omega) (by simp only[List.length_cons];omega)) fun a r' hr=>Fin.le (ih.L lvl a r' h1 (by simp only[List.length_cons]at hr;omega)) hr
       · refine Fin.and (ih.E 4 (t::r) (by omega) (by simp only[List.length_cons];omega)) fun a r' hr=>?_
         simp only[List.length_cons]at hr
         cases r' with
         | nil=>exact Fin.ok (by simp)
         | cons u r1=>
           simp only[List.length_cons]at hr
           refine Fin.ite (fun _=>?_) fun _=>Fin.ite (fun _=>?_) fun _=>Fin.ite (fun _=>?_) fun _=>Fin.ok (by simp only[List.length_cons];omega)
           · exact Fin.and (ih.E 4 r1 (by omega) (by omega)) fun b r2 h2=>Fin.ok (by omega)
           · exact Fin.must fun v r2 h2=>Fin.ok (by omega)
           · exact Fin.must fun v r2 h2=>Fin.ok (by omega)
       · refine Fin.ite (fun _=>?_) fun _=>Fin.ite (fun _=>?_) fun _=>ih.E 7 (t::r) (by omega) (by simp only[List.length_cons];omega)
         · exact Fin.and (ih.E 6 r (by omega) (by omega)) fun a r1 h1=>Fin.ok (by omega)
         · exact Fin.and (ih.E 6 r (by omega) (by omega)) fun a r1 h1=>Fin.ok (by omega)
       · exact Fin.and (ih.E 8 (t::r) (by omega) (by simp only[List.length_cons];omega)) fun a r' hr=>Fin.le (ih.P a r' (by simp only[List.length_cons]at hr;omega)) hr
       · have ht:=tail_len r
         refine Fin.ite (fun _=>Fin.ite (fun _=>Fin.err) fun _=>Fin.ok (by omega)) fun _=>Fin.ite (fun _=>Fin.ok (by omega)) fun _=>Fin.ite (fun _=>Fin.ok (by omega)) fun _=>Fin.ite (fun _=>?_) fun _=>
          Fin.ite (fun _=>?_) fun _=>Fin.ite (fun _=>?_) fun _=>Fin.ite (fun _=>?_) fun _=>Fin.ite (fun _=>?_) fun _=>Fin.err
         · refine Fin.ite (fun _=>Fin.must fun u r2 h2=>Fin.ok (by omega)) fun _=>Fin.ite (fun _=>Fin.ok (by omega)) fun _=>Fin.ite (fun _=>Fin.ok (by omega)) fun _=>Fin.ite (fun _=>Fin.err) fun _=>Fin.ok (by omega)
         · exact Fin.must fun u r2 h2=>Fin.ite (fun _=>Fin.err) fun _=>Fin.ok (by omega)
         · exact Fin.and (ih.E 0 r (by omega) (by omega)) fun a r1 h1=>Fin.must fun u r2 h2=>Fin.ok (by omega)
         · exact Fin.ite (fun _=>Fin.ok (by omega)) fun _=>ih.S 0 [] r (by omega)
         · exact Fin.ite (fun _=>Fin.ok (by omega)) fun _=>ih.K 0 [] [] r (by omega)
   · intro lvl a l hl hn
     rw[pL.eq_def]
     cases l with
     | nil=>exact Fin.ok (by simp)
     | cons t r=>
       simp only[List.length_cons]at hn ⊢
       have hl':lvl≤5∧1≤lvl:=by unfold lftL at hl;omega
       refine Fin.ite (fun _=>?_) fun _=>Fin.ok (by simp)
       exact Fin.and (ih.E (lvl+1) r (by omega) (by omega)) fun b r1 h1=>Fin.le (ih.L lvl _ r1 hl (by omega)) (by omega)
   · intro a l hn
     rw[pP.eq_def]
     cases l with
     | nil=>exact Fin.ok (by simp)
     | cons t r=>
       simp only[List.length_cons]at hn ⊢
       refine Fin.ite (fun _=>Fin.must fun u r1 h1=>?_) fun _=>Fin.ok (by simp)
       have ht:=tail_len r1
       refine Fin.ite (fun _=>?_) fun _=>Fin.le (ih.P _ r1 (by omega)) (by omega)
       exact Fin.and (ih.E 0 r1.tail (by omega) (by omega)) fun b r2 h2=>Fin.must fun _ r3 h3=>Fin.le (ih.P _ r3 (by omega)) (by omega)
   · intro k acc l hn
     rw[pS.eq_def]
     refine Fin.and (ih.E 0 l (by omega) (by omega)) fun a r hr=>?_
     cases r with
     | nil=>exact Fin.err
     | cons t r1=>
       simp only[List.length_cons]at hr
       exact Fin.ite (fun _=>Fin.ok (by omega)) fun _=>Fin.ite (fun _=>Fin.le (ih.S _ _ r1 (by omega)) (by omega)) fun _=>Fin.err
   · intro k nm acc l hn
     rw[pK.eq_def]
     refine Fin.must fun u r0 h0=>Fin.must fun _ r1 h1=>Fin.and (ih.E 0 r1 (by omega) (by omega)) fun a r hr=>?_
     cases r with
     | nil=>exact Fin.err
     | cons t r2=>
       simp only[List.length_cons]at hr
       exact Fin.ite (fun _=>Fin.ok (by omega)) fun _=>Fin.ite (fun _=>Fin.le (ih.K _ _ _ r2 (by omega)) (by omega)) fun _=>Fin.err
def prs (l:List Tk):Except (Nat×Int) (List Nd×List Tk):=match pE (10*l.length+10) 0 l with | some x=>x | none=>.error (0,1)
theorem prs_any {n:Nat}{l:List Tk}(hn:10*l.length+10≤n):pE n 0 l=some (prs l):=by
 have h:=(enough_all (10*l.length+10)).E 0 l (by omega) (by omega)
 have hm:=(mono_all (10*l.length+10) n hn).E 0 l
 have e:pE (10*l.length+10) 0 l=some (prs l):=by
  unfold prs
  cases he:pE (10*l.length+10) 0 l with
  | none=>exact absurd he h.1
  | some x=>rfl
 exact hm _ e
theorem prs_of {n:Nat}{l:List Tk}{x:Except (Nat×Int) (List Nd×List Tk)}(h:pE n 0 l=some x):prs l=x:=by
 have h1:=(mono_all n (n+(10*l.length+10)) (by omega)).E 0 l _ h
 rw[prs_any (by omega)]at h1
 injection h1
abbrev ER:=Except (Nat×Int) (List Nd×List Tk)
def Run (lvl:Nat)(l:List Tk)(x:ER):Prop:=∃n,pE n lvl l=some x
def RunL (lvl:Nat)(a:List Nd)(l:List Tk)(x:ER):Prop:=∃n,pL n lvl a l=some x
def RunP (a:List Nd)(l:List Tk)(x:ER):Prop:=∃n,pP n a l=some x
def RunS (k:Nat)(a:List Nd)(l:List Tk)(x:ER):Prop:=∃n,pS n k a l=some x
def RunK (k:Nat)(nm:List UInt8)(a:List Nd)(l:List Tk)(x:ER):Prop:=∃n,pK n k nm a l=some x
theorem sgn_eq {t:Tk}{a:List UInt8}(h:sgn t a=true)(b:List UInt8):sgn t b=(a == b):=by
 obtain⟨h1,h2⟩:=sgn_kind h
 unfold sgn;rw[h1,h2];rfl
theorem nam_eq {t:Tk}{a:List UInt8}(h:nam t a=true)(b:List UInt8):nam t b=(a == b):=by
 obtain⟨h1,h2⟩:=nam_kind h
 unfold nam;rw[h1,h2];rfl
def bad (lvl:Nat)(t:Tk):Bool:=
 sgn t [58,58] || sgn t [40] || (decide (lvl≤7) && sgn t [46]) || (decide (lvl≤5) && sgn t [42]) || (decide (lvl≤4) && sumS t) ||
  (decide (lvl≤3) && (relS t || hasS t || nam t wLike)) || (decide (lvl≤2) && ands t) || (decide (lvl≤1) && ors t)
def good (lvl:Nat)(r:List Tk):Prop:=∀t r',r=t::r'→bad lvl t=false
theorem good_nil (lvl:Nat):good lvl []:=fun _ _ h=>by cases h
theorem good_cons {lvl:Nat}{t:Tk}{r:List Tk}(h:bad lvl t=false):good lvl (t::r):=fun t' r' e=>by injection e with e _;rw[←e];exact h
theorem bad_up {l m:Nat}{t:Tk}(h:l≤m)(hb:bad l t=false):bad m t=false:=by
 unfold bad at hb ⊢
 simp only[Bool.or_eq_false_iff,Bool.and_eq_false_iff,decide_eq_false_iff_not]at hb ⊢
 obtain⟨⟨⟨⟨⟨⟨⟨h1,h2⟩,h3⟩,h4⟩,h5⟩,h6⟩,h7⟩,h8⟩:=hb
 exact⟨⟨⟨⟨⟨⟨⟨h1,h2⟩,h3.imp (by omega) id⟩,h4.imp (by omega) id⟩,h5.imp (by omega) id⟩,h6.imp (by omega) id⟩,h7.imp (by omega) id⟩,h8.imp (by omega) id⟩
theorem good_up {l m:Nat}{r:List Tk}(h:l≤m)(hg:good l r):good m r:=fun t r' e=>bad_up h (hg t r' e)
theorem bad_sgn {t:Tk}{a:List UInt8}(h:sgn t a=true)(l:Nat):bad l t=
 ((a == [58,58]) || (a == [40]) || (decide (l≤7) && (a == [46])) || (decide (l≤5) && (a == [42])) || (decide (l≤4) && ((a == [43]) || (a == [45]))) ||
 (decide (l≤3) && ((a == [61,61]) || (a == [60]) || (a == [60,61]))) || (decide (l≤2) && (a == [38,38])) || (decide (l≤1) && (a == [124,124]))):=by
 unfold bad sumS relS hasS ands ors
 simp only[sgn_eq h,sgn_nam h,Bool.or_false]
theorem bad_nam {t:Tk}{a:List UInt8}(h:nam t a=true)(l:Nat):bad l t=(decide (l≤3) && ((a == wIn) || ((a == wHas) || (a == wIs)) || (a == wLike))):=by
 unfold bad sumS relS hasS ands ors
 simp only[nam_eq h,nam_sgn h,Bool.or_false,Bool.false_or,Bool.and_false]
theorem good_sgn {t:Tk}{a:List UInt8}{l:Nat}{r:List Tk}(h:sgn t a=true)
 (h':((a == [58,58]) || (a == [40]) || (decide (l≤7) && (a == [46])) || (decide (l≤5) && (a == [42])) || (decide (l≤4) && ((a == [43]) || (a == [45]))) ||
 (decide (l≤3) && ((a == [61,61]) || (a == [60]) || (a == [60,61]))) || (decide (l≤2) && (a == [38,38])) || (decide (l≤1) && (a == [124,124])))=false):good l (t::r):=
 good_cons (by rw[bad_sgn h];exact h')
theorem good_nam {t:Tk}{a:List UInt8}{l:Nat}{r:List Tk}(h:nam t a=true)(h':(decide (l≤3) && ((a == wIn) || ((a == wHas) || (a == wIs)) || (a == wLike)))=false):good l (t::r):=
 good_cons (by rw[bad_nam h];exact h')
theorem good_lvl {l:Nat}{t:Tk}{r:List Tk}(hl:lftL l)(h:lvlS l t=true):good (l+1) (t::r):=by
 rcases hl with hl | hl | hl | hl<;>subst hl
 · exact good_sgn (a:=[124,124]) h (by decide)
 · exact good_sgn (a:=[38,38]) h (by decide)
 · have h':sumS t=true:=h
   unfold sumS at h';rw[Bool.or_eq_true]at h'
   rcases h' with h' | h'
   · exact good_sgn h' (by decide)
   · exact good_sgn h' (by decide)
 · exact good_sgn (a:=[42]) h (by decide)
theorem good_rel {t:Tk}{r:List Tk}(h:relS t=true):good 4 (t::r):=by
 unfold relS at h;simp only[Bool.or_eq_true]at h
 rcases h with((h | h) | h) | h
 · exact good_sgn h (by decide)
 · exact good_sgn h (by decide)
 · exact good_sgn h (by decide)
 · exact good_nam h (by decide)
theorem good_has {t:Tk}{r:List Tk}(h:hasS t=true):good 4 (t::r)∧relS t=false:=by
 unfold hasS at h;rw[Bool.or_eq_true]at h
 rcases h with h | h
 · exact⟨good_nam h (by decide),by unfold relS;simp only[nam_sgn h,nam_eq h];decide⟩
 · exact⟨good_nam h (by decide),by unfold relS;simp only[nam_sgn h,nam_eq h];decide⟩
theorem good_like {t:Tk}{r:List Tk}(h:nam t wLike=true):good 4 (t::r)∧relS t=false∧hasS t=false:=
 ⟨good_nam h (by decide),by unfold relS;simp only[nam_sgn h,nam_eq h];decide,by unfold hasS;simp only[nam_eq h];decide⟩
def Fst (l:Nat)(ts:List Tk):Prop:=∃t r,ts=t::r∧sgn t [58,58]=false∧sgn t [93]=false∧sgn t [125]=false∧(1≤l→l≤8→nam t wIf=true→nextS r [58,58]=true)∧
 (7≤l→l≤8→sgn t [33]=false∧(sgn t [45]=true→nextNum r=true))
theorem nextS_append {r b:List Tk}{s:List UInt8}(h:nextS r s=true):nextS (r++b) s=true:=by
 cases r with
 | nil=>cases h
 | cons t r=>exact h
theorem nextNum_append {r b:List Tk}(h:nextNum r=true):nextNum (r++b)=true:=by
 cases r with
 | nil=>cases h
 | cons t r=>exact h
theorem nextNum_left {r b:List Tk}(h:r≠[]):nextNum (r++b)=nextNum r:=by
 cases r with
 | nil=>exact absurd rfl h
 | cons t r=>rfl
theorem Fst.append {l:Nat}{a:List Tk}(h:Fst l a)(b:List Tk):Fst l (a++b):=by
 obtain⟨t,r,h1,h2,h3,h4,h5,h6⟩:=h
 subst h1
 exact⟨t,r++b,rfl,h2,h3,h4,fun k k' hi=>nextS_append (h5 k k' hi),fun k k'=>⟨(h6 k k').1,fun hm=>nextNum_append ((h6 k k').2 hm)⟩⟩
theorem Fst.kind {l:Nat}{t:Tk}{r:List Tk}(h5:t.kind≠5)(hi:nam t wIf=true→nextS r [58,58]=true):Fst l (t::r):=
 ⟨t,r,rfl,sgn_off h5 _,sgn_off h5 _,sgn_off h5 _,fun _ _=>hi,fun _ _=>⟨sgn_off h5 _,fun h=>by rw[sgn_off h5]at h;cases h⟩⟩
theorem Fst.sign {l:Nat}{t:Tk}{r:List Tk}{a:List UInt8}(h:sgn t a=true)(ha:(a == [58,58] || a == [93] || a == [125])=false)(h7:7≤l→(a == [33] || a == [45])=false):Fst l (t::r):=by
 simp only[Bool.or_eq_false_iff]at ha h7
 refine⟨t,r,rfl,by rw[sgn_eq h];exact ha.1.1,by rw[sgn_eq h];exact ha.1.2,by rw[sgn_eq h];exact ha.2,fun _ _ hi=>(by rw[sgn_nam h]at hi;cases hi),fun k _=>⟨by rw[sgn_eq h];exact(h7 k).1,fun hm=>by rw[sgn_eq h,(h7 k).2]at hm;cases hm⟩⟩
theorem der_first {l:Nat}{a:List Tk}{x:List Nd}(h:Der l a x):Fst l a:=by
 induction h with
 | ite t u v a b c x y z h1 h2 h3 _ _ _ _ _ _=>exact⟨t,_,rfl,nam_sgn h1 _,nam_sgn h1 _,nam_sgn h1 _,fun k=>by omega,fun k=>by omega⟩
 | up l a x hl _ ih=>
   obtain⟨t,r,h1,h2,h3,h4,h5,h6⟩:=ih
   exact⟨t,r,h1,h2,h3,h4,fun k k'=>h5 (by omega) (by omega),fun k k'=>h6 (by omega) (by omega)⟩
 | bin l t a b x y hl ht _ _ ih _=>exact ih.append _
 | rel t a b x y ht _ _ ih _=>
   obtain⟨t',r,h1,h2,h3,h4,h5,h6⟩:=ih.append (t::b)
   exact⟨t',r,h1,h2,h3,h4,fun k k'=>h5 (by omega) (by omega),fun k k'=>by omega⟩
 | has t u a x ht hu _ ih=>
   obtain⟨t',r,h1,h2,h3,h4,h5,h6⟩:=ih.append [t,u]
   exact⟨t',r,h1,h2,h3,h4,fun k k'=>h5 (by omega) (by omega),fun k k'=>by omega⟩
 | like t u a x ht hu _ ih=>
   obtain⟨t',r,h1,h2,h3,h4,h5,h6⟩:=ih.append [t,u]
   exact⟨t',r,h1,h2,h3,h4,fun k k'=>h5 (by omega) (by omega),fun k k'=>by omega⟩
 | not t a x ht _ _=>exact Fst.sign ht (by decide) (fun k=>by omega)
 | neg t a x ht hn _ _=>exact Fst.sign ht (by decide) (fun k=>by omega)
 | get t u a x ht hu _ ih=>exact ih.append _
 | call t u v w a b x y h1 h2 h3 h4 h5 _ _ ih _=>exact ih.append _
 | num t ht hg=>exact Fst.kind (by rw[ht];decide) (fun hi=>by rw[nam_off (by rw[ht];decide)]at hi;cases hi)
 | mnum t u ht hu hg=>
   exact⟨t,[u],rfl,by rw[sgn_eq ht];decide,by rw[sgn_eq ht];decide,by rw[sgn_eq ht];decide,fun _ _ hi=>(by rw[sgn_nam ht]at hi;cases hi),fun _ _=>⟨by rw[sgn_eq ht];decide,fun _=>by show(u.kind == 2)=true;rw[hu];rfl⟩⟩
 | text t ht=>exact Fst.kind (by rw[ht];decide) (fun hi=>by rw[nam_off (by rw[ht];decide)]at hi;cases hi)
 | slot t ht=>exact Fst.kind (by rw[ht];decide) (fun hi=>by rw[nam_off (by rw[ht];decide)]at hi;cases hi)
 | ent t u v ht hu hv=>exact Fst.kind (by rw[ht];decide) (fun hi=>hu)
 | yes t ht=>exact Fst.kind (by rw[(nam_kind ht).1];decide) (fun hi=>by rw[nam_eq ht]at hi;revert hi;decide)
 | no t ht=>exact Fst.kind (by rw[(nam_kind ht).1];decide) (fun hi=>by rw[nam_eq ht]at hi;revert hi;decide)
 | var t ht h1 h2 hr=>exact Fst.kind (by rw[ht];decide) (fun hi=>by rw[(nam_kind hi).2]at hr;revert hr;decide)
 | round t u a x ht hu _ _=>exact Fst.sign ht (by decide) (fun _=>by decide)
 | set0 t u ht hu=>exact Fst.sign ht (by decide) (fun _=>by decide)
 | set t u a x ht hu _ _=>exact Fst.sign ht (by decide) (fun _=>by decide)
 | rec0 t u ht hu=>exact Fst.sign ht (by decide) (fun _=>by decide)
 | fields t u k nm a x ht hu _ _=>exact Fst.sign ht (by decide) (fun _=>by decide)
 | one a x _ ih=>
   obtain⟨t,r,h1,h2,h3,h4,h5,h6⟩:=ih
   exact⟨t,r,h1,h2,h3,h4,fun k k'=>by omega,fun k k'=>by omega⟩
 | more t k a b x y ht _ _ ih _=>exact ih.append _
 | fone u c b y hu hc hs _ _=>
   have h5:u.kind≠5:=by rw[hu];decide
   exact⟨u,_,rfl,sgn_off h5 _,sgn_off h5 _,sgn_off h5 _,fun k k'=>by omega,fun k k'=>by omega⟩
 | fmore t u c k nm a b x y _ _ _ _ _ _ ih _=>exact ih.append _
def ContS (m:Nat)(x:List Nd)(r:List Tk)(res:ER):Prop:=∃n,(match r with
 | []=>some (.error (0,1))
 | t::r1=>if sgn t [93]=true then some (.ok (mkN 5 ((m:Int)+1) [] []::x,r1))else if sgn t [44]=true then pS n (m+1) x r1 else some (.error (r1.length+1,1)))=some res
def ContK (m:Nat)(nm:List UInt8)(x:List Nd)(r:List Tk)(res:ER):Prop:=∃n,(match r with
 | []=>some (.error (0,1))
 | t::r1=>if sgn t [125]=true then some (.ok (mkN 6 ((m:Int)+1) [] []::x,r1))else if comR nm t=true then pK n (m+1) nm x r1 else some (.error (r1.length+1,1)))=some res
structure Cpl (lvl:Nat)(ts:List Tk)(e:List Nd):Prop where
 flat:lvl≤8→∀r,good lvl r→Run lvl (ts++r) (.ok (e,r))
 left:lftL lvl→∀r x,good (lvl+1) r→RunL lvl e r x→Run lvl (ts++r) x
 pst:lvl=7→∀r x,good 8 r→RunP e r x→Run 7 (ts++r) x
 set:lvl=9→∃(m:Nat) (x0:List Nd),e=mkN 5 ((m:Int)+1) [] []::x0∧∀r x,good 0 r→ContS m x0 r x→RunS 0 [] (ts++r) x
 recd:lvl=10→∃(m:Nat) (nm:List UInt8) (x0:List Nd),e=mkN 6 ((m:Int)+1) nm []::x0∧∀r x,good 0 r→ContK m nm x0 r x→RunK 0 [] [] (ts++r) x
theorem Run.and {lvl:Nat}{l r:List Tk}{a:List Nd}{x:ER}{f:Nat→List Nd→List Tk→PR}{g:Nat→PR}(h:Run lvl l (.ok (a,r)))(hf:∃n,f n a r=some x)(hm:∀n m,n≤m→Ple (f n a r) (f m a r))
 (hg:∀n,g (n+1)=andR (pE n lvl l) (f n)):∃n,g n=some x:=by
 obtain⟨n1,h1⟩:=h
 obtain⟨n2,h2⟩:=hf
 refine⟨n1+n2+1,?_⟩
 rw[hg,(mono_all n1 (n1+n2) (by omega)).E _ _ _ h1]
 exact hm n2 (n1+n2) (by omega) _ h2
theorem Run.left {lvl:Nat}{l r:List Tk}{a:List Nd}{x:ER}(hl:lftL lvl)(h:Run (lvl+1) l (.ok (a,r)))(h2:RunL lvl a r x):Run lvl l x:=by
 refine Run.and (f:=fun n a r=>pL n lvl a r) h h2 (fun n m hnm=>(mono_all n m hnm).L _ _ _) (fun n=>?_)
 rw[pE.eq_def]
 rcases hl with hl | hl | hl | hl<;>subst hl<;>rfl
theorem RunL.step {lvl:Nat}{t:Tk}{r r':List Tk}{a b:List Nd}{x:ER}(ht:lvlS lvl t=true)(h:Run (lvl+1) r (.ok (b,r')))(h2:RunL lvl (opN (opOf t)::(a++b)) r' x):RunL lvl a (t::r) x:=by
 refine Run.and (f:=fun n b r1=>pL n lvl (opN (opOf t)::(a++b)) r1) h h2 (fun n m hnm=>(mono_all n m hnm).L _ _ _) (fun n=>?_)
 rw[pL.eq_def];simp only[ht,if_true]
theorem RunL.stop {lvl:Nat}{a:List Nd}{r:List Tk}(h:∀t r',r=t::r'→lvlS lvl t=false):RunL lvl a r (.ok (a,r)):=by
 refine⟨1,?_⟩
 rw[pL.eq_def]
 cases r with
 | nil=>rfl
 | cons t r=>simp only[h t r rfl,Bool.false_eq_true,if_false]
theorem good_stop {lvl:Nat}{r:List Tk}(hl:lftL lvl)(h:good lvl r):∀t r',r=t::r'→lvlS lvl t=false:=by
 intro t r' e
 have hb:=h t r' e
 unfold bad at hb
 simp only[Bool.or_eq_false_iff]at hb
 obtain⟨⟨⟨⟨⟨⟨⟨h1,h2⟩,h3⟩,h4⟩,h5⟩,h6⟩,h7⟩,h8⟩:=hb
 rcases hl with hl | hl | hl | hl<;>subst hl
 · exact h8
 · exact h7
 · exact h5
 · exact h4
theorem RunP.stop {a:List Nd}{r:List Tk}(h:good 7 r):RunP a r (.ok (a,r)):=by
 refine⟨1,?_⟩
 rw[pP.eq_def]
 cases r with
 | nil=>rfl
 | cons t r=>
   have hb:=h t r rfl
   unfold bad at hb
   simp only[Bool.or_eq_false_iff]at hb
   obtain⟨⟨⟨⟨⟨⟨⟨h1,h2⟩,h3⟩,h4⟩,h5⟩,h6⟩,h7⟩,h8⟩:=hb
   have h3':sgn t [46]=false:=h3
   simp only[h3',Bool.false_eq_true,if_false]
theorem cpl_left {lvl:Nat}{ts:List Tk}{e:List Nd}(hl:lftL lvl)(h:∀r x,good (lvl+1) r→RunL lvl e r x→Run lvl (ts++r) x):Cpl lvl ts e:=
 ⟨fun _ r hg=>h r _ (good_up (by omega) hg) (RunL.stop (good_stop hl hg)),fun _=>h,fun h7=>by unfold lftL at hl;omega,fun h7=>by unfold lftL at hl;omega,fun h7=>by unfold lftL at hl;omega⟩
theorem cpl_pst {ts:List Tk}{e:List Nd}(h:∀r x,good 8 r→RunP e r x→Run 7 (ts++r) x):Cpl 7 ts e:=
 ⟨fun _ r hg=>h r _ (good_up (by omega) hg) (RunP.stop hg),fun hl=>by unfold lftL at hl;omega,fun _=>h,fun h7=>by omega,fun h7=>by omega⟩
theorem cpl_flat {lvl:Nat}{ts:List Tk}{e:List Nd}(hl:lvl=0∨lvl=3∨lvl=6∨lvl=8)(h:∀r,good lvl r→Run lvl (ts++r) (.ok (e,r))):Cpl lvl ts e:=
 ⟨fun _=>h,fun hl=>by unfold lftL at hl;omega,fun h7=>by omega,fun h7=>by omega,fun h7=>by omega⟩
theorem cpl_set {ts:List Tk}{e:List Nd}(h:∃(m:Nat) (x0:List Nd),e=mkN 5 ((m:Int)+1) [] []::x0∧∀r x,good 0 r→ContS m x0 r x→RunS 0 [] (ts++r) x):Cpl 9 ts e:=
 ⟨fun h7=>by omega,fun hl=>by unfold lftL at hl;omega,fun h7=>by omega,fun _=>h,fun h7=>by omega⟩
theorem cpl_rec {ts:List Tk}{e:List Nd}(h:∃(m:Nat) (nm:List UInt8) (x0:List Nd),e=mkN 6 ((m:Int)+1) nm []::x0∧∀r x,good 0 r→ContK m nm x0 r x→RunK 0 [] [] (ts++r) x):Cpl 10 ts e:=
 ⟨fun h7=>by omega,fun hl=>by unfold lftL at hl;omega,fun h7=>by omega,fun h7=>by omega,fun _=>h⟩
theorem Run.lift {n lvl m:Nat}{l l':List Tk}{x:ER}(h:Run m l x)(e:∀n,pE (n+1) lvl l'=pE n m l):Run lvl l' x:=by
 obtain⟨n,h⟩:=h
 exact⟨n+1,by rw[e,h]⟩
theorem must_pos {p:Tk→Bool}{t:Tk}{r:List Tk}{f:Tk→List Tk→PR}(h:p t=true):must p (t::r) f=f t r:=by
 show(if p t=true then f t r else _)=_
 rw[if_pos h]
theorem good_rest {l:Nat}{t:Tk}{r:List Tk}(h:good l (t::r)):bad l t=false:=h t r rfl
theorem good_first {l:Nat}{r:List Tk}(h:good l r)(hl:8≤8):nextS r [58,58]=false∧nextS r [40]=false:=by
 cases r with
 | nil=>exact⟨rfl,rfl⟩
 | cons t r=>
   have hb:=h t r rfl
   unfold bad at hb
   simp only[Bool.or_eq_false_iff]at hb
   obtain⟨⟨⟨⟨⟨⟨⟨h1,h2⟩,h3⟩,h4⟩,h5⟩,h6⟩,h7⟩,h8⟩:=hb
   exact⟨h1,h2⟩
theorem good_three {r:List Tk}(h:good 3 r):∀t r',r=t::r'→relS t=false∧hasS t=false∧nam t wLike=false:=by
 intro t r' e
 have hb:=h t r' e
 unfold bad at hb
 simp only[Bool.or_eq_false_iff]at hb
 obtain⟨⟨⟨⟨⟨⟨⟨h1,h2⟩,h3⟩,h4⟩,h5⟩,h6⟩,h7⟩,h8⟩:=hb
 have h6':(relS t || hasS t || nam t wLike)=false:=h6
 simp only[Bool.or_eq_false_iff]at h6'
 exact⟨h6'.1.1,h6'.1.2,h6'.2⟩
theorem pE3 (n:Nat)(l:List Tk):pE (n+1) 3 l=andR (pE n 4 l) fun a r=>
        match r with
        | []=>some (.ok (a,[]))
        | t::r1=>
          if relS t=true then andR (pE n 4 r1) fun b r2=>some (.ok (opN (opOf t)::(a++b),r2))
          else if hasS t=true then must (fun u=>u.kind == 1) r1 fun u r2=>some (.ok (mkN (if nam t wHas=true then 21 else 24) 0 u.l []::a,r2))
          else if nam t wLike=true then must (fun u=>u.kind == 3) r1 fun u r2=>some (.ok (mkN 23 0 u.l []::a,r2))
          else some (.ok (a,t::r1)):=by rw[pE.eq_def];first | done | rfl
theorem Run.two {lvl:Nat}{l r:List Tk}{a:List Nd}(h:Run lvl l (.ok (a,r))):∃n0,∀n,n0≤n→∀f:List Nd→List Tk→PR,andR (pE n lvl l) f=f a r:=by
 obtain⟨n0,h⟩:=h
 refine⟨n0,fun n hn f=>?_⟩
 rw[(mono_all n0 n hn).E _ _ _ h]
 rfl
theorem cpl_ite (t u v:Tk)(a b c:List Tk)(x y z:List Nd)(h1:nam t wIf=true)(h2:nam u wThen=true)(h3:nam v wElse=true)(ha:Der 0 a x)(iha:Cpl 0 a x)(ihb:Cpl 0 b y)(ihc:Cpl 0 c z):
 Cpl 0 (t::(a++u::(b++v::c))) (opN 13::(x++(y++z))):=by
 refine cpl_flat (Or.inl rfl) fun r hr=>?_
 obtain⟨na,ea⟩:=(iha.flat (by omega) (u::(b++v::(c++r))) (good_nam h2 (by decide))).two
 obtain⟨nb,eb⟩:=(ihb.flat (by omega) (v::(c++r)) (good_nam h3 (by decide))).two
 obtain⟨nc,ec⟩:=(ihc.flat (by omega) r hr).two
 refine⟨na+nb+nc+1,?_⟩
 have el:t::(a++u::(b++v::c))++r=t::(a++(u::(b++v::(c++r)))):=by simp
 rw[el]
 have hn:nextS (a++(u::(b++v::(c++r)))) [58,58]=false:=by
  obtain⟨t',r',h1',h2',_⟩:=der_first ha
  rw[h1'];exact h2'
 have hc:(nam t wIf && !nextS (a++(u::(b++v::(c++r)))) [58,58])=true:=by rw[h1,hn];rfl
 have e:∀n,pE (n+1) 0 (t::(a++(u::(b++v::(c++r)))))=andR (pE n 0 (a++(u::(b++v::(c++r))))) fun a r1=>must (fun u=>nam u wThen) r1 fun _ r2=>andR (pE n 0 r2) fun b r3=>must (fun u=>nam u wElse) r3 fun _ r4=>
  andR (pE n 0 r4) fun c r5=>some (.ok (opN 13::(a++(b++c)),r5)):=by
  intro n;rw[pE.eq_def];simp only[if_true,hc]
 rw[e,ea _ (by omega),must_pos h2,eb _ (by omega),must_pos h3,ec _ (by omega)]
theorem cpl_up (l:Nat)(a:List Tk)(x:List Nd)(hl:l≤7)(hd:Der (l+1) a x)(ih:Cpl (l+1) a x):Cpl l a x:=by
 obtain⟨t,r0,e0,_,_,_,hf1,hf2⟩:=der_first hd
 match l,hl with
 | 0,_=>
   refine cpl_flat (Or.inl rfl) fun r hr=>?_
   refine Run.lift (n:=0) (ih.flat (by omega) r (good_up (by omega) hr)) fun n=>?_
   subst e0
   have hc:(nam t wIf && !nextS (r0++r) [58,58])=false:=by
    cases hi:nam t wIf with
    | false=>rfl
    | true=>rw[nextS_append (hf1 (by omega) (by omega) hi)];rfl
   show pE (n+1) 0 (t::(r0++r))=pE n 1 (t::(r0++r))
   rw[pE.eq_def];simp only[if_true,hc,Bool.false_eq_true,if_false]
 | 1,_=>exact cpl_left (Or.inl rfl) fun r y hr hy=>Run.left (Or.inl rfl) (ih.flat (by omega) r hr) hy
 | 2,_=>exact cpl_left (Or.inr (Or.inl rfl)) fun r y hr hy=>Run.left (Or.inr (Or.inl rfl)) (ih.flat (by omega) r hr) hy
 | 3,_=>
   refine cpl_flat (Or.inr (Or.inl rfl)) fun r hr=>?_
   obtain⟨n0,e⟩:=(ih.flat (by omega) r (good_up (by omega) hr)).two
   refine⟨n0+1,?_⟩
   rw[pE3,e n0 (by omega)]
   cases r with
   | nil=>rfl
   | cons u r1=>
     obtain⟨c1,c2,c3⟩:=good_three hr u r1 rfl
     simp only[c1,c2,c3,Bool.false_eq_true,if_false]
 | 4,_=>exact cpl_left (Or.inr (Or.inr (Or.inl rfl))) fun r y hr hy=>Run.left (Or.inr (Or.inr (Or.inl rfl))) (ih.flat (by omega) r hr) hy
 | 5,_=>exact cpl_left (Or.inr (Or.inr (Or.inr rfl))) fun r y hr hy=>Run.left (Or.inr (Or.inr (Or.inr rfl))) (ih.flat (by omega) r hr) hy
 | 6,_=>
   refine cpl_flat (Or.inr (Or.inr (Or.inl rfl))) fun r hr=>?_
   refine Run.lift (n:=0) (ih.flat (by omega) r (good_up (by omega) hr)) fun n=>?_
   subst e0
   obtain⟨k1,k2⟩:=hf2 (by omega) (by omega)
   have hc:(sgn t [45] && !nextNum (r0++r))=false:=by
    cases hi:sgn t [45]with
    | false=>rfl
    | true=>rw[nextNum_append (k2 hi)];rfl
   show pE (n+1) 6 (t::(r0++r))=pE n 7 (t::(r0++r))
   rw[pE.eq_def]
   simp[k1,hc]
 | 7,_=>
   refine cpl_pst fun r y hr hy=>?_
   refine Run.and (f:=fun n a r=>pP n a r) (ih.flat (by omega) r hr) hy (fun n m hnm=>(mono_all n m hnm).P _ _) (fun n=>?_)
   rw[pE.eq_def];first | done | rfl
theorem cpl_bin (l:Nat)(t:Tk)(a b:List Tk)(x y:List Nd)(hl:lftL l)(ht:lvlS l t=true)(iha:Cpl l a x)(ihb:Cpl (l+1) b y):Cpl l (a++t::b) (opN (opOf t)::(x++y)):=by
 refine cpl_left hl fun r z hr hz=>?_
 have el:a++t::b++r=a++(t::(b++r)):=by simp
 rw[el]
 refine iha.left hl _ z (good_lvl hl ht) ?_
 exact RunL.step ht (ihb.flat (by unfold lftL at hl;omega) r hr) hz
theorem cpl_rel (t:Tk)(a b:List Tk)(x y:List Nd)(ht:relS t=true)(iha:Cpl 4 a x)(ihb:Cpl 4 b y):Cpl 3 (a++t::b) (opN (opOf t)::(x++y)):=by
 refine cpl_flat (Or.inr (Or.inl rfl)) fun r hr=>?_
 have el:a++t::b++r=a++(t::(b++r)):=by simp
 rw[el]
 obtain⟨na,ea⟩:=(iha.flat (by omega) (t::(b++r)) (good_rel ht)).two
 obtain⟨nb,eb⟩:=(ihb.flat (by omega) r (good_up (by omega) hr)).two
 refine⟨na+nb+1,?_⟩
 rw[pE3,ea _ (by omega)]
 simp only[ht,if_true]
 rw[eb _ (by omega)]
theorem cpl_has (t u:Tk)(a:List Tk)(x:List Nd)(ht:hasS t=true)(hu:u.kind=1)(iha:Cpl 4 a x):Cpl 3 (a++[t,u]) (mkN (if nam t wHas=true then 21 else 24) 0 u.l []::x):=by
 refine cpl_flat (Or.inr (Or.inl rfl)) fun r hr=>?_
 have el:a++[t,u]++r=a++(t::(u::r)):=by simp
 rw[el]
 obtain⟨g1,g2⟩:=good_has (r:=u::r) ht
 obtain⟨na,ea⟩:=(iha.flat (by omega) _ g1).two
 refine⟨na+1,?_⟩
 rw[pE3,ea _ (by omega)]
 simp only[g2,ht,if_true,Bool.false_eq_true,if_false]
 rw[must_pos (by rw[hu];rfl)]
theorem cpl_like (t u:Tk)(a:List Tk)(x:List Nd)(ht:nam t wLike=true)(hu:u.kind=3)(iha:Cpl 4 a x):Cpl 3 (a++[t,u]) (mkN 23 0 u.l []::x):=by
 refine cpl_flat (Or.inr (Or.inl rfl)) fun r hr=>?_
 have el:a++[t,u]++r=a++(t::(u::r)):=by simp
 rw[el]
 obtain⟨g1,g2,g3⟩:=good_like (r:=u::r) ht
 obtain⟨na,ea⟩:=(iha.flat (by omega) _ g1).two
 refine⟨na+1,?_⟩
 rw[pE3,ea _ (by omega)]
 simp only[g2,g3,ht,if_true,Bool.false_eq_true,if_false]
 rw[must_pos (by rw[hu];rfl)]
theorem cpl_not (t:Tk)(a:List Tk)(x:List Nd)(ht:sgn t [33]=true)(iha:Cpl 6 a x):Cpl 6 (t::a) (opN 9::x):=by
 refine cpl_flat (Or.inr (Or.inr (Or.inl rfl))) fun r hr=>?_
 obtain⟨na,ea⟩:=(iha.flat (by omega) r hr).two
 refine⟨na+1,?_⟩
 have e:pE (na+1) 6 (t::(a++r))=andR (pE na 6 (a++r)) fun a r1=>some (.ok (opN 9::a,r1)):=by rw[pE.eq_def];simp[ht]
 show pE (na+1) 6 (t::(a++r))=_
 rw[e,ea _ (by omega)]
theorem cpl_neg (t:Tk)(a:List Tk)(x:List Nd)(ht:sgn t [45]=true)(hn:nextNum a=false)(hd:Der 6 a x)(iha:Cpl 6 a x):Cpl 6 (t::a) (opN 10::x):=by
 refine cpl_flat (Or.inr (Or.inr (Or.inl rfl))) fun r hr=>?_
 obtain⟨na,ea⟩:=(iha.flat (by omega) r hr).two
 refine⟨na+1,?_⟩
 have c1:sgn t [33]=false:=by rw[sgn_eq ht];decide
 have c2:nextNum (a++r)=false:=by rw[nextNum_left hd.ne];exact hn
 have e:pE (na+1) 6 (t::(a++r))=andR (pE na 6 (a++r)) fun a r1=>some (.ok (opN 10::a,r1)):=by rw[pE.eq_def];simp[ht,c1,c2]
 show pE (na+1) 6 (t::(a++r))=_
 rw[e,ea _ (by omega)]
theorem pP_dot (n:Nat)(a:List Nd)(t:Tk)(r:List Tk)(c1:sgn t [46]=true):pP (n+1) a (t::r)=must (fun u=>u.kind == 1) r fun u r1=>
        (if (isCall u && nextS r1 [40])=true then andR (pE n 0 r1.tail) fun b r2=>must (fun v=>sgn v [41]) r2 fun _ r3=>pP n (opN (callOp u)::(a++b)) r3
         else pP n (mkN 22 0 u.l []::a) r1):=by rw[pP.eq_def];simp only[c1,if_true]
theorem cpl_get (t u:Tk)(a:List Tk)(x:List Nd)(ht:sgn t [46]=true)(hu:u.kind=1)(iha:Cpl 7 a x):Cpl 7 (a++[t,u]) (mkN 22 0 u.l []::x):=by
 refine cpl_pst fun r y hr hy=>?_
 have el:a++[t,u]++r=a++(t::(u::r)):=by simp
 rw[el]
 refine iha.pst rfl _ y (good_sgn ht (by decide)) ?_
 obtain⟨n,hn⟩:=hy
 refine⟨n+1,?_⟩
 rw[pP_dot n x t _ ht,must_pos (by rw[hu];rfl)]
 have:(isCall u && nextS r [40])=false:=by rw[(good_first hr (by omega)).2];simp
 simp only[this,Bool.false_eq_true,if_false]
 exact hn
theorem cpl_call (t u v w:Tk)(a b:List Tk)(x y:List Nd)(ht:sgn t [46]=true)(hu:u.kind=1)(hc:isCall u=true)(hv:sgn v [40]=true)(hw:sgn w [41]=true)(iha:Cpl 7 a x)(ihb:Cpl 0 b y):
 Cpl 7 (a++t::u::v::(b++[w])) (opN (callOp u)::(x++y)):=by
 refine cpl_pst fun r z hr hz=>?_
 have el:a++t::u::v::(b++[w])++r=a++(t::(u::(v::(b++(w::r))))):=by simp
 rw[el]
 refine iha.pst rfl _ z (good_sgn ht (by decide)) ?_
 obtain⟨n,hn⟩:=hz
 obtain⟨nb,eb⟩:=(ihb.flat (by omega) (w::r) (good_sgn hw (by decide))).two
 refine⟨n+nb+1,?_⟩
 rw[pP_dot _ x t _ ht,must_pos (by rw[hu];rfl)]
 have:(isCall u && nextS (v::(b++w::r)) [40])=true:=by rw[hc];exact hv
 simp only[this,if_true,List.tail_cons]
 rw[eb _ (by omega),must_pos hw]
 exact(mono_all n (n+nb) (by omega)).P _ _ _ hn
theorem pE8 (n:Nat)(t:Tk)(r:List Tk):pE (n+1) 8 (t::r)=(if (t.kind == 2)=true then(if great t false=true then some (.error (r.length+1,5))else some (.ok ([numN t false],r)))
        else if (t.kind == 3)=true then some (.ok ([mkN 3 0 t.l []],r))
        else if (t.kind == 4)=true then some (.ok ([mkN 8 0 (63::t.l) []],r))
        else if (t.kind == 1)=true then
         (if nextS r [58,58]=true then must (fun u=>u.kind == 3) r.tail fun u r2=>some (.ok ([mkN 4 0 t.l u.l],r2))
          else if (t.l == wTrue)=true then some (.ok ([mkN 1 1 [] []],r))
          else if (t.l == wFalse)=true then some (.ok ([mkN 1 0 [] []],r))
          else if rsv t.l=true then some (.error (r.length,1))
          else some (.ok ([mkN 8 0 t.l []],r)))
        else if (t.l == [45])=true then must (fun u=>u.kind == 2) r fun u r2=>(if great u true=true then some (.error (r2.length+1,5))else some (.ok ([numN u true],r2)))
        else if (t.l == [40])=true then andR (pE n 0 r) fun a r1=>must (fun u=>sgn u [41]) r1 fun _ r2=>some (.ok (a,r2))
        else if (t.l == [91])=true then(if nextS r [93]=true then some (.ok ([mkN 5 0 [] []],r.tail))else pS n 0 [] r)
        else if (t.l == [123])=true then(if nextS r [125]=true then some (.ok ([mkN 6 0 [] []],r.tail))else pK n 0 [] [] r)
        else some (.error (r.length+1,1))):=by rw[pE.eq_def];first | done | rfl
theorem pE8_name (n:Nat)(t:Tk)(r:List Tk)(h:t.kind=1):pE (n+1) 8 (t::r)=(if nextS r [58,58]=true then must (fun u=>u.kind == 3) r.tail fun u r2=>some (.ok ([mkN 4 0 t.l u.l],r2))
 else if (t.l == wTrue)=true then some (.ok ([mkN 1 1 [] []],r))
 else if (t.l == wFalse)=true then some (.ok ([mkN 1 0 [] []],r))
 else if rsv t.l=true then some (.error (r.length,1))
 else some (.ok ([mkN 8 0 t.l []],r))):=by
 rw[pE8,h];rfl
theorem pE8_sign (n:Nat)(t:Tk)(r:List Tk)(h:t.kind=5):pE (n+1) 8 (t::r)=(if (t.l == [45])=true then must (fun u=>u.kind == 2) r fun u r2=>(if great u true=true then some (.error (r2.length+1,5))else some (.ok ([numN u true],r2)))
        else if (t.l == [40])=true then andR (pE n 0 r) fun a r1=>must (fun u=>sgn u [41]) r1 fun _ r2=>some (.ok (a,r2))
        else if (t.l == [91])=true then(if nextS r [93]=true then some (.ok ([mkN 5 0 [] []],r.tail))else pS n 0 [] r)
        else if (t.l == [123])=true then(if nextS r [125]=true then some (.ok ([mkN 6 0 [] []],r.tail))else pK n 0 [] [] r)
        else some (.error (r.length+1,1))):=by
 rw[pE8,h];rfl
theorem contS_end (m:Nat)(x:List Nd)(u:Tk)(r:List Tk)(hu:sgn u [93]=true):ContS m x (u::r) (.ok (mkN 5 ((m:Int)+1) [] []::x,r)):=⟨0,by simp only[hu,if_true]⟩
theorem contK_end (m:Nat)(nm:List UInt8)(x:List Nd)(u:Tk)(r:List Tk)(hu:sgn u [125]=true):ContK m nm x (u::r) (.ok (mkN 6 ((m:Int)+1) [] []::x,r)):=⟨0,by simp only[hu,if_true]⟩
theorem contS_mono {n m k:Nat}{x:List Nd}{r:List Tk}(h:n≤m):Ple (match r with
 | []=>some (.error (0,1))
 | t::r1=>if sgn t [93]=true then some (.ok (mkN 5 ((k:Int)+1) [] []::x,r1))else if sgn t [44]=true then pS n (k+1) x r1 else some (.error (r1.length+1,1)))
 (match r with
 | []=>some (.error (0,1))
 | t::r1=>if sgn t [93]=true then some (.ok (mkN 5 ((k:Int)+1) [] []::x,r1))else if sgn t [44]=true then pS m (k+1) x r1 else some (.error (r1.length+1,1))):=by
 cases r with
 | nil=>exact Ple.refl _
 | cons t r1=>exact Ple.ite (Ple.refl _) (Ple.ite ((mono_all n m h).S _ _ _) (Ple.refl _))
theorem contK_mono {n m k:Nat}{nm:List UInt8}{x:List Nd}{r:List Tk}(h:n≤m):Ple (match r with
 | []=>some (.error (0,1))
 | t::r1=>if sgn t [125]=true then some (.ok (mkN 6 ((k:Int)+1) [] []::x,r1))else if comR nm t=true then pK n (k+1) nm x r1 else some (.error (r1.length+1,1)))
 (match r with
 | []=>some (.error (0,1))
 | t::r1=>if sgn t [125]=true then some (.ok (mkN 6 ((k:Int)+1) [] []::x,r1))else if comR nm t=true then pK m (k+1) nm x r1 else some (.error (r1.length+1,1))):=by
 cases r with
 | nil=>exact Ple.refl _
 | cons t r1=>exact Ple.ite (Ple.refl _) (Ple.ite ((mono_all n m h).K _ _ _ _) (Ple.refl _))
theorem RunS.part {k:Nat}{acc a:List Nd}{l r:List Tk}{x:ER}(h:Run 0 l (.ok (a,r)))(hc:ContS k (acc++a) r x):RunS k acc l x:=by
 obtain⟨n0,e⟩:=h.two
 obtain⟨n1,h1⟩:=hc
 refine⟨n0+n1+1,?_⟩
 rw[pS.eq_def]
 simp only
 rw[e _ (by omega)]
 refine contS_mono (n:=n1) (by omega) _ ?_
 cases r<;>exact h1
theorem RunK.part {k:Nat}{nm:List UInt8}{acc a:List Nd}{u c:Tk}{l r:List Tk}{x:ER}(hu:u.kind=1)(hn:Lib.compareBytes nm u.l<0)(hc:sgn c [58]=true)(h:Run 0 l (.ok (a,r)))
 (hk:ContK k u.l (acc++(mkN 7 0 u.l []::a)) r x):RunK k nm acc (u::c::l) x:=by
 obtain⟨n0,e⟩:=h.two
 obtain⟨n1,h1⟩:=hk
 refine⟨n0+n1+1,?_⟩
 rw[pK.eq_def]
 simp only
 rw[must_pos (by rw[hu];simpa using hn),must_pos hc,e _ (by omega)]
 refine contK_mono (n:=n1) (by omega) _ ?_
 cases r<;>exact h1
theorem mkN_five {k k':Int}{x x':List Nd}(h:mkN 5 k [] []::x=mkN 5 k' [] []::x'):k=k'∧x=x':=by
 injection h with h1 h2
 unfold mkN at h1
 injection h1 with _ h1
 exact⟨h1,h2⟩
theorem mkN_six {k k':Int}{nm nm':List UInt8}{x x':List Nd}(h:mkN 6 k nm []::x=mkN 6 k' nm' []::x'):k=k'∧nm=nm'∧x=x':=by
 injection h with h1 h2
 unfold mkN at h1
 injection h1 with _ h1 h3 _
 refine⟨h1,?_,h2⟩
 simpa using h3
theorem der_cpl {l:Nat}{a:List Tk}{x:List Nd}(h:Der l a x):Cpl l a x:=by
 induction h with
 | ite t u v a b c x y z h1 h2 h3 ha _ _ iha ihb ihc=>exact cpl_ite t u v a b c x y z h1 h2 h3 ha iha ihb ihc
 | up l a x hl hd ih=>exact cpl_up l a x hl hd ih
 | bin l t a b x y hl ht _ _ iha ihb=>exact cpl_bin l t a b x y hl ht iha ihb
 | rel t a b x y ht _ _ iha ihb=>exact cpl_rel t a b x y ht iha ihb
 | has t u a x ht hu _ ih=>exact cpl_has t u a x ht hu ih
 | like t u a x ht hu _ ih=>exact cpl_like t u a x ht hu ih
 | not t a x ht _ ih=>exact cpl_not t a x ht ih
 | neg t a x ht hn hd ih=>exact cpl_neg t a x ht hn hd ih
 | get t u a x ht hu _ ih=>exact cpl_get t u a x ht hu ih
 | call t u v w a b x y h1 h2 h3 h4 h5 _ _ iha ihb=>exact cpl_call t u v w a b x y h1 h2 h3 h4 h5 iha ihb
 | num t ht hg=>
   refine cpl_flat (by omega) fun r hr=>⟨1,?_⟩
   show pE 1 8 (t::r)=_
   rw[pE8,ht,hg];rfl
 | mnum t u ht hu hg=>
   refine cpl_flat (by omega) fun r hr=>⟨1,?_⟩
   show pE 1 8 (t::u::r)=_
   obtain⟨k1,k2⟩:=sgn_kind ht
   rw[pE8_sign _ _ _ k1,k2,if_pos (by rfl),must_pos (by rw[hu];rfl),hg];rfl
 | text t ht=>
   refine cpl_flat (by omega) fun r hr=>⟨1,?_⟩
   show pE 1 8 (t::r)=_
   rw[pE8,ht];rfl
 | slot t ht=>
   refine cpl_flat (by omega) fun r hr=>⟨1,?_⟩
   show pE 1 8 (t::r)=_
   rw[pE8,ht];rfl
 | ent t u v ht hu hv=>
   refine cpl_flat (by omega) fun r hr=>⟨1,?_⟩
   show pE 1 8 (t::u::v::r)=_
   rw[pE8_name _ _ _ ht,if_pos (show nextS (u::v::r) [58,58]=true from hu)]
   show must _ (v::r) _=_
   rw[must_pos (by rw[hv];rfl)]
 | yes t ht=>
   refine cpl_flat (by omega) fun r hr=>⟨1,?_⟩
   show pE 1 8 (t::r)=_
   obtain⟨k1,k2⟩:=nam_kind ht
   rw[pE8_name _ _ _ k1,(good_first hr (by omega)).1,k2];rfl
 | no t ht=>
   refine cpl_flat (by omega) fun r hr=>⟨1,?_⟩
   show pE 1 8 (t::r)=_
   obtain⟨k1,k2⟩:=nam_kind ht
   rw[pE8_name _ _ _ k1,(good_first hr (by omega)).1,k2];rfl
 | var t ht h1 h2 hr'=>
   refine cpl_flat (by omega) fun r hr=>⟨1,?_⟩
   show pE 1 8 (t::r)=_
   rw[pE8_name _ _ _ ht,(good_first hr (by omega)).1,if_neg (by decide),if_neg (by simpa using h1),if_neg (by simpa using h2),hr',if_neg (by decide)]
 | round t u a x ht hu _ ih=>
   refine cpl_flat (by omega) fun r hr=>?_
   obtain⟨na,ea⟩:=(ih.flat (by omega) (u::r) (good_sgn hu (by decide))).two
   refine⟨na+1,?_⟩
   have el:t::(a++[u])++r=t::(a++(u::r)):=by simp
   obtain⟨k1,k2⟩:=sgn_kind ht
   rw[el,pE8_sign _ _ _ k1,k2,if_neg (by decide),if_pos (by rfl),ea _ (by omega),must_pos hu]
 | set0 t u ht hu=>
   refine cpl_flat (by omega) fun r hr=>⟨1,?_⟩
   show pE 1 8 (t::u::r)=_
   obtain⟨k1,k2⟩:=sgn_kind ht
   rw[pE8_sign _ _ _ k1,k2,if_neg (by decide),if_neg (by decide),if_pos (by rfl),if_pos (show nextS (u::r) [93]=true from hu)];rfl
 | set t u a x ht hu hd ih=>
   refine cpl_flat (by omega) fun r hr=>?_
   obtain⟨m,x0,he,hs⟩:=ih.set rfl
   subst he
   obtain⟨n,hn⟩:=hs (u::r) _ (good_sgn hu (by decide)) (contS_end m x0 u r hu)
   refine⟨n+1,?_⟩
   have el:t::(a++[u])++r=t::(a++(u::r)):=by simp
   obtain⟨k1,k2⟩:=sgn_kind ht
   have hf:nextS (a++(u::r)) [93]=false:=by
    obtain⟨t',r',h1',_,h2',_⟩:=der_first hd
    rw[h1'];exact h2'
   rw[el,pE8_sign _ _ _ k1,k2,if_neg (by decide),if_neg (by decide),if_pos (by rfl),hf,if_neg (by decide),hn]
 | rec0 t u ht hu=>
   refine cpl_flat (by omega) fun r hr=>⟨1,?_⟩
   show pE 1 8 (t::u::r)=_
   obtain⟨k1,k2⟩:=sgn_kind ht
   rw[pE8_sign _ _ _ k1,k2,if_neg (by decide),if_neg (by decide),if_neg (by decide),if_pos (by rfl),if_pos (show nextS (u::r) [125]=true from hu)];rfl
 | fields t u k nm a x ht hu hd ih=>
   refine cpl_flat (by omega) fun r hr=>?_
   obtain⟨m,nm',x0,he,hs⟩:=ih.recd rfl
   obtain⟨e1,e2,e3⟩:=mkN_six he
   subst e1 e2 e3
   obtain⟨n,hn⟩:=hs (u::r) _ (good_sgn hu (by decide)) (contK_end m nm x u r hu)
   refine⟨n+1,?_⟩
   have el:t::(a++[u])++r=t::(a++(u::r)):=by simp
   obtain⟨k1,k2⟩:=sgn_kind ht
   have hf:nextS (a++(u::r)) [125]=false:=by
    obtain⟨t',r',h1',_,_,h2',_⟩:=der_first hd
    rw[h1'];exact h2'
   rw[el,pE8_sign _ _ _ k1,k2,if_neg (by decide),if_neg (by decide),if_neg (by decide),if_pos (by rfl),hf,if_neg (by decide),hn]
 | one a x _ ih=>exact cpl_set ⟨0,x,rfl,fun r y hr hy=>RunS.part (acc:=[]) (ih.flat (by omega) r hr) hy⟩
 | more t k a b x y ht _ _ iha ihb=>
   obtain⟨m,x0,he,hs⟩:=iha.set rfl
   obtain⟨e1,e2⟩:=mkN_five he
   subst e1 e2
   refine cpl_set ⟨m+1,x++y,by push_cast;rfl,fun r z hr hz=>?_⟩
   have el:a++t::b++r=a++(t::(b++r)):=by simp
   rw[el]
   refine hs _ z (good_sgn ht (by decide)) ?_
   obtain⟨n,hn⟩:=RunS.part (acc:=x) (ihb.flat (by omega) r hr) hz
   refine⟨n,?_⟩
   have c:sgn t [93]=false:=by rw[sgn_eq ht];decide
   simp only[c,ht,if_true,Bool.false_eq_true,if_false]
   exact hn
 | fone u c b y hu hc hs _ ih=>exact cpl_rec ⟨0,u.l,mkN 7 0 u.l []::y,rfl,fun r z hr hz=>RunK.part (acc:=[]) hu hc hs (ih.flat (by omega) r hr) hz⟩
 | fmore t u c k nm a b x y ht hu hn hc _ _ iha ihb=>
   obtain⟨m,nm',x0,he,hs⟩:=iha.recd rfl
   obtain⟨e1,e2,e3⟩:=mkN_six he
   subst e1 e2 e3
   refine cpl_rec ⟨m+1,u.l,x++(mkN 7 0 u.l []::y),by push_cast;rfl,fun r z hr hz=>?_⟩
   have el:a++t::u::c::b++r=a++(t::(u::c::(b++r))):=by simp
   rw[el]
   refine hs _ z (good_sgn (comR_sgn ht) (by decide)) ?_
   obtain⟨n,hn'⟩:=RunK.part (acc:=x) hu hn hc (ihb.flat (by omega) r hr) hz
   refine⟨n,?_⟩
   have c':sgn t [125]=false:=by rw[sgn_eq (comR_sgn ht)];decide
   simp only[c',ht,if_true,Bool.false_eq_true,if_false]
   exact hn'
theorem prs_der {l:List Tk}{e:List Nd}(h:Der 0 l e):prs l= .ok (e,[]):=by
 obtain⟨n,hn⟩:=(der_cpl h).flat (by omega) [] (good_nil 0)
 rw[List.append_nil]at hn
 exact prs_of hn
theorem der_prs {l:List Tk}{e:List Nd}(hk:AllK l)(h:prs l= .ok (e,[])):Der 0 l e:=by
 have h1:=prs_any (l:=l) (Nat.le_refl _)
 rw[h]at h1
 obtain⟨ts,h2,h3⟩:=(snd_all _).E 0 l (by omega) hk e [] h1
 rw[List.append_nil]at h2
 rw[h2];exact h3
theorem der_unique {l:List Tk}{e e':List Nd}(h:Der 0 l e)(h':Der 0 l e'):e=e':=by
 have h1:=prs_der h
 rw[prs_der h']at h1
 injection h1 with h1
 injection h1 with h1
 exact h1.symm
theorem acc_der {l:List Tk}{e:List Nd}{b:Tk}(hk:AllK l)(h:Der 0 l e):acc ps0 b l=none:=by
 have h1:=prs_any (l:=l) (Nat.le_refl _)
 rw[prs_der h]at h1
 exact halt_ok hk h1
theorem der_acc {l:List Tk}{b:Tk}(hk:AllK l)(h:acc ps0 b l=none):∃e,Der 0 l e:=by
 have h1:=prs_any (l:=l) (Nat.le_refl _)
 match hp:prs l with
 | .error e=>rw[hp]at h1;rw[halt_error hk h1]at h;cases h
 | .ok (e,[])=>exact⟨e,der_prs hk hp⟩
 | .ok (e,t::r)=>rw[hp]at h1;rw[halt_more hk h1]at h;cases h
def dv:List UInt8→Nat
 | []=>0
 | c::r=>(c.toNat-48)*10 ^ r.length+dv r
theorem dig_rng {c:UInt8}(h:digb c=true):48≤c.toNat∧c.toNat≤57:=by
 unfold digb at h;simpa using h
theorem dv_fold:∀(l:List UInt8) (a:Nat),l.all digb=true→l.foldl (fun(n:Int) c=>n*10+((c.toNat:Int)-48)) (a:Int)=((a*10 ^ l.length+dv l:Nat):Int)
 | [],a,_=>by simp[dv]
 | c::r,a,h=>by
   simp only[List.all_cons,Bool.and_eq_true]at h
   obtain⟨h1,h2⟩:=dig_rng h.1
   have e:(a:Int)*10+((c.toNat:Int)-48)=((a*10+(c.toNat-48):Nat):Int):=by omega
   rw[List.foldl_cons,e,dv_fold r _ h.2]
   congr 1
   simp only[dv,List.length_cons,Nat.pow_succ]
   rw[Nat.add_mul,Nat.mul_assoc a 10,Nat.mul_comm 10 (10 ^ r.length),←Nat.add_assoc]
theorem digV_dv {l:List UInt8}(h:l.all digb=true):digV l=(dv l:Int):=by
 have:=dv_fold l 0 h
 simpa[digV]using this
theorem dv_lt:∀l:List UInt8,l.all digb=true→dv l<10 ^ l.length
 | [],_=>by simp[dv]
 | c::r,h=>by
   simp only[List.all_cons,Bool.and_eq_true]at h
   obtain⟨h1,h2⟩:=dig_rng h.1
   have h3:=dv_lt r h.2
   simp only[dv,List.length_cons,Nat.pow_succ]
   have:(c.toNat-48)*10 ^ r.length≤9*10 ^ r.length:=Nat.mul_le_mul_right _ (by omega)
   omega
theorem dv_cmp:∀l m:List UInt8,l.all digb=true→m.all digb=true→l.length=m.length→(0<Lib.compareBytes l m↔dv m<dv l)
 | [],[],_,_,_=>by simp[dv,Lib.compareBytes]
 | [],_::_,_,_,h=>by simp at h
 | _::_,[],_,_,h=>by simp at h
 | c::l,d::m,hl,hm,h=>by
   simp only[List.all_cons,Bool.and_eq_true]at hl hm
   simp only[List.length_cons,Nat.add_right_cancel_iff]at h
   obtain⟨c1,c2⟩:=dig_rng hl.1
   obtain⟨d1,d2⟩:=dig_rng hm.1
   have hl':=dv_lt l hl.2
   have hm':=dv_lt m hm.2
   rw[cb_cons]
   simp only[dv]
   rw[←h]at hm' ⊢
   by_cases k1:c<d
   · rw[if_pos k1]
     have k:c.toNat<d.toNat:=k1
     have:(c.toNat-48+1)*10 ^ l.length≤(d.toNat-48)*10 ^ l.length:=Nat.mul_le_mul_right _ (by omega)
     rw[Nat.add_mul]at this
     omega
   · rw[if_neg k1]
     by_cases k2:d<c
     · rw[if_pos k2]
       have k:d.toNat<c.toNat:=k2
       have:(d.toNat-48+1)*10 ^ l.length≤(c.toNat-48)*10 ^ l.length:=Nat.mul_le_mul_right _ (by omega)
       rw[Nat.add_mul]at this
       omega
     · rw[if_neg k2]
       have k1':¬c.toNat<d.toNat:=k1
       have k2':¬d.toNat<c.toNat:=k2
       have e:c.toNat=d.toNat:=by omega
       rw[e,dv_cmp l m hl.2 hm.2 h]
       omega
def most (minus:Bool):List UInt8:=if minus then[57,50,50,51,51,55,50,48,51,54,56,53,52,55,55,53,56,48,56]else[57,50,50,51,51,55,50,48,51,54,56,53,52,55,55,53,56,48,55]
theorem most_dv (b:Bool):(most b).all digb=true∧(most b).length=19∧dv (most b)=if b then 9223372036854775808 else 9223372036854775807:=by cases b<;>decide
theorem great_iff {t:Tk}{b:Bool}(h:t.l.all digb=true)(hl:t.l.length≤19):great t b=true↔(if b then 9223372036854775808 else 9223372036854775807)<dv t.l:=by
 obtain⟨m1,m2,m3⟩:=most_dv b
 have e:great t b=(t.l.length == 19 && decide (0<Lib.compareBytes t.l (most b))):=rfl
 rw[e,←m3]
 by_cases k:t.l.length=19
 · have k':(t.l.length == 19)=true:=by simpa using k
   rw[k',Bool.true_and,decide_eq_true_iff,dv_cmp _ _ h m1 (by omega)]
 · have k':(t.l.length == 19)=false:=by simpa using k
   rw[k',Bool.false_and]
   have h1:=dv_lt _ h
   have h2:10 ^ t.l.length≤10 ^ 18:=Nat.pow_le_pow_right (by decide) (by omega)
   rw[m3]
   constructor
   · intro h;cases h
   · intro h3
     exfalso
     have:(10:Nat) ^ 18=1000000000000000000:=by decide
     cases b<;>simp at h3<;>omega
def decL (n:Nat):List UInt8:=if h:n<10 then[UInt8.ofNat (48+n)]else decL (n / 10)++[UInt8.ofNat (48+n % 10)]
termination_by n
decreasing_by omega
theorem dig_of {k:Nat}(h:k<10):digb (UInt8.ofNat (48+k))=true∧(UInt8.ofNat (48+k)).toNat=48+k:=by
 have e:(UInt8.ofNat (48+k)).toNat=48+k:=by
  rw[UInt8.toNat_ofNat'];omega
 refine⟨?_,e⟩
 unfold digb;rw[e];simp;omega
theorem dv_snoc:∀(l:List UInt8) (c:UInt8),dv (l++[c])=dv l*10+(c.toNat-48)
 | [],c=>by simp[dv]
 | d::l,c=>by
   simp only[List.cons_append,dv,dv_snoc l c,List.length_append,List.length_cons,List.length_nil,Nat.pow_succ]
   rw[Nat.add_mul,←Nat.add_assoc]
   simp only[Nat.mul_assoc]
theorem decL_small {n:Nat}(h:n<10):decL n=[UInt8.ofNat (48+n)]:=by rw[decL,dif_pos h]
theorem decL_big {n:Nat}(h:¬n<10):decL n=decL (n / 10)++[UInt8.ofNat (48+n % 10)]:=by rw[decL,dif_neg h]
theorem decL_dig (n:Nat):(decL n).all digb=true:=by
 induction n using Nat.strongRecOn with
 | _ n ih=>
   by_cases h:n<10
   · rw[decL_small h,List.all_cons,(dig_of h).1];rfl
   · rw[decL_big h,List.all_append,ih (n / 10) (by omega)]
     rw[List.all_cons,(dig_of (show n % 10<10 by omega)).1];rfl
theorem decL_dv (n:Nat):dv (decL n)=n:=by
 induction n using Nat.strongRecOn with
 | _ n ih=>
   by_cases h:n<10
   · rw[decL_small h];simp only[dv,(dig_of h).2,List.length_nil];omega
   · rw[decL_big h,dv_snoc,ih (n / 10) (by omega),(dig_of (show n % 10<10 by omega)).2];omega
theorem decL_ne (n:Nat):decL n≠[]:=by
 by_cases h:n<10
 · rw[decL_small h];simp
 · rw[decL_big h];simp
theorem decL_len:∀(k n:Nat),n<10 ^ (k+1)→(decL n).length≤k+1
 | 0,n,h=>by rw[decL_small (by omega)];simp
 | k+1,n,h=>by
   by_cases h1:n<10
   · rw[decL_small h1];simp
   · rw[decL_big h1,List.length_append]
     have:=decL_len k (n / 10) (by rw[Nat.pow_succ]at h;omega)
     simp;omega
theorem decL_head (n:Nat)(h:0<n):∃c r,decL n=c::r∧c.toNat≠48:=by
 induction n using Nat.strongRecOn with
 | _ n ih=>
   by_cases h1:n<10
   · rw[decL_small h1];exact⟨_,[],rfl,by rw[(dig_of h1).2];omega⟩
   · obtain⟨c,r,e,hc⟩:=ih (n / 10) (by omega) (by omega)
     rw[decL_big h1,e];exact⟨c,r++_,rfl,hc⟩
theorem decL_zero (n:Nat):dig0 (decL n)=decL n:=by
 by_cases h:n<10
 · rw[decL_small h];rfl
 · obtain⟨c,r,e,hc⟩:=decL_head n (by omega)
   rw[e]
   cases r with
   | nil=>rfl
   | cons d r=>
     have:(c.toNat == 48)=false:=by simpa using hc
     simp only[dig0,this,Bool.false_eq_true,if_false]
def numW (n:Nat):Tk:=mkT 2 (decL n) 0
theorem numW_l (n:Nat):(numW n).l=decL n:=rfl
theorem numW_great {n:Nat}{b:Bool}(h:n≤if b then 9223372036854775808 else 9223372036854775807):great (numW n) b=false:=by
 cases hg:great (numW n) b with
 | false=>rfl
 | true=>
   rw[great_iff (by rw[numW_l];exact decL_dig n) (by rw[numW_l];exact decL_len 18 n (by cases b<;>simp at h<;>omega)),numW_l,decL_dv]at hg
   omega
theorem numW_val (n:Nat)(b:Bool):numN (numW n) b=mkN 2 (if b then-(n:Int)else n) [] []:=by
 unfold numN
 rw[numW_l,digV_dv (decL_dig n),decL_dv]
def nmW (l:List UInt8):Tk:=mkT 1 l 0
def sgW (l:List UInt8):Tk:=mkT 5 l 0
def qtW (l:List UInt8):Tk:=mkT 3 l 0
def opX (v:List Nd):Int:=match v with | []=>0 | x::_=>x.op
def lvO (op:Int):Nat:=
 if op=13 then 0 else if op=12 then 1 else if op=11 then 2
 else if 14≤op∧op≤16∨20≤op∧op≤24∧op≠22 then 3
 else if op=17∨op=18 then 4 else if op=19 then 5 else if op=9∨op=10 then 6 else if 22≤op∧op≤27 then 7 else 8
theorem lvO_le (op:Int):lvO op≤8:=by unfold lvO;repeat' split
                                     all_goals omega
def brk (ts:List Tk):List Tk:=sgW [40]::(ts++[sgW [41]])
def signW (op:Int):Tk:=
 if op=12 then sgW [124,124]else if op=11 then sgW [38,38]else if op=14 then sgW [61,61]else if op=15 then sgW [60]else if op=16 then sgW [60,61]
 else if op=20 then nmW wIn else if op=17 then sgW [43]else if op=18 then sgW [45]else sgW [42]
def callW (op:Int):List UInt8:=if op=26 then wAll else if op=27 then wAny else wOne
def nxtE (f:Nat)(v:List Nd):List Nd:=(pastE f v).getD []
def partW (w:List Nd→List Tk)(least:Nat)(v:List Nd):List Tk:=if lvO (opX v)<least then brk (w v)else w v
def negW (ts:List Tk):List Tk:=if nextNum ts=true then brk ts else ts
def setW (w:List Nd→List Tk)(nx:List Nd→List Nd):Nat→List Nd→List Tk
 | 0,_=>[]
 | k+1,v=>w v++(if k=0 then[]else sgW [44]::setW w nx k (nx v))
def recW (w:List Nd→List Tk)(nx:List Nd→List Nd):Nat→List Nd→List Tk
 | 0,_=>[]
 | k+1,[]=>[]
 | k+1,x::v=>nmW x.s.data.toList::sgW [58]::(w v++(if k=0 then[]else sgW [44]::recW w nx k (nx v)))
def atomW (x:Nd):List Tk:=
 if x.op=1 then[nmW (if x.n=1 then wTrue else wFalse)]
 else if x.op=2 then(if x.n<0 then[sgW [45],numW x.n.natAbs]else[numW x.n.natAbs])
 else if x.op=3 then[qtW x.s.data.toList]
 else if x.op=4 then[nmW x.s.data.toList,sgW [58,58],qtW x.t.data.toList]
 else if x.s.data.toList.head? =some 63 then[mkT 4 x.s.data.toList.tail 0]else[nmW x.s.data.toList]
def wdE:Nat→List Nd→List Tk
 | 0,_=>[]
 | _+1,[]=>[]
 | f+1,x::m=>
   if x.op=13 then nmW wIf::(wdE f m++nmW wThen::(wdE f (nxtE f m)++nmW wElse::wdE f (nxtE f (nxtE f m))))
   else if lvO x.op=1∨lvO x.op=2∨lvO x.op=4∨lvO x.op=5 then partW (wdE f) (lvO x.op) m++signW x.op::partW (wdE f) (lvO x.op+1) (nxtE f m)
   else if lvO x.op=3 then
    (if x.op=21 then partW (wdE f) 4 m++[nmW wHas,nmW x.s.data.toList]
     else if x.op=24 then partW (wdE f) 4 m++[nmW wIs,nmW x.s.data.toList]
     else if x.op=23 then partW (wdE f) 4 m++[nmW wLike,qtW x.s.data.toList]
     else partW (wdE f) 4 m++signW x.op::partW (wdE f) 4 (nxtE f m))
   else if x.op=9 then sgW [33]::partW (wdE f) 6 m
   else if x.op=10 then sgW [45]::negW (partW (wdE f) 6 m)
   else if lvO x.op=7 then
    (if x.op=22 then partW (wdE f) 7 m++[sgW [46],nmW x.s.data.toList]
     else partW (wdE f) 7 m++sgW [46]::nmW (callW x.op)::brk (wdE f (nxtE f m)))
   else if x.op=5 then sgW [91]::(setW (wdE f) (nxtE f) x.n.toNat m++[sgW [93]])
   else if x.op=6 then sgW [123]::(recW (wdE f) (nxtE f) x.n.toNat m++[sgW [125]])
   else atomW x
theorem nd_eq (x:Nd):x=mkN x.op x.n x.s.data.toList x.t.data.toList:=by
 unfold mkN
 cases x;rfl
theorem data_nil {s:ByteArray}(h:s.data.toList.isEmpty=true):s.data.toList=[]:=by simpa using h
theorem der_down {l:Nat}{a:List Tk}{x:List Nd}(h:Der l a x)(hl:l≤8):∀k,k≤l→Der (l-k) a x
 | 0,_=>h
 | k+1,hk=>by
   have h1:=der_down h hl k (by omega)
   have e:l-k=l-(k+1)+1:=by omega
   rw[e]at h1
   exact Der.up _ _ _ (by omega) h1
theorem der_to {l m:Nat}{a:List Tk}{x:List Nd}(h:Der l a x)(hl:l≤8)(hm:m≤l):Der m a x:=by
 have:=der_down h hl (l-m) (by omega)
 have e:l-(l-m)=m:=by omega
 rw[e]at this;exact this
theorem der_brk {a:List Tk}{x:List Nd}(h:Der 0 a x){m:Nat}(hm:m≤8):Der m (brk a) x:=der_to (Der.round _ _ a x rfl rfl h) (by omega) hm
def WD (f:Nat)(v r:List Nd):Prop:=∃a,v=a++r∧Der (lvO (opX v)) (wdE f v) a
theorem WD.part {f:Nat}{v r:List Nd}(h:WD f v r)(least:Nat)(hl:least≤8):∃a,v=a++r∧Der least (partW (wdE f) least v) a:=by
 obtain⟨a,h1,h2⟩:=h
 refine⟨a,h1,?_⟩
 unfold partW
 split
 · exact der_brk (der_to h2 (lvO_le _) (by omega)) hl
 · exact der_to h2 (lvO_le _) (by omega)
theorem WD.zero {f:Nat}{v r:List Nd}(h:WD f v r):∃a,v=a++r∧Der 0 (wdE f v) a:=by
 obtain⟨a,h1,h2⟩:=h
 exact⟨a,h1,der_to h2 (lvO_le _) (by omega)⟩
theorem partsE_one {pv:List Nd→Option (List Nd)}{k:Nat}{v r:List Nd}(h:partsE pv (k+1) v=some r):∃s,pv v=some s∧partsE pv k s=some r:=by
 simp only[partsE]at h
 cases e:pv v with
 | none=>rw[e]at h;cases h
 | some s=>rw[e]at h;exact⟨s,rfl,h⟩
theorem partsE_end {pv:List Nd→Option (List Nd)}{v r:List Nd}(h:partsE pv 0 v=some r):v=r:=by simpa[partsE]using h
theorem nxt_of {f:Nat}{v r:List Nd}(h:pastE f v=some r):nxtE f v=r:=by unfold nxtE;rw[h];rfl
theorem setW_more {f:Nat}(ih:∀v r,pastE f v=some r→(∀x∈v,n64 x)→WD f v r):∀(k:Nat) (m r:List Nd) (p:List Tk) (j:Int) (acc:List Nd),(∀x∈m,n64 x)→Der 9 p (mkN 5 j [] []::acc)→
 partsE (pastE f) (k+1) m=some r→∃a,m=a++r∧Der 9 (p++sgW [44]::setW (wdE f) (nxtE f) (k+1) m) (mkN 5 (j+(k+1)) [] []::(acc++a))
 | k,m,r,p,j,acc,hN,hp,h=>by
   obtain⟨s,h1,h2⟩:=partsE_one h
   obtain⟨a,e1,h3⟩:=(ih m s h1 hN).zero
   have hm:=Der.more (sgW [44]) j p (wdE f m) acc a rfl hp h3
   cases k with
   | zero=>
     have:=partsE_end h2
     subst this
     refine⟨a,e1,?_⟩
     simpa[setW]using hm
   | succ k=>
     obtain⟨a',e2,h4⟩:=setW_more ih k s r _ _ _ (fun x hx=>hN x (by rw[e1];exact List.mem_append_right _ hx)) hm h2
     refine⟨a++a',by rw[e1,e2,List.append_assoc],?_⟩
     have e3:p++sgW [44]::setW (wdE f) (nxtE f) (k+1+1) m=p++sgW [44]::wdE f m++sgW [44]::setW (wdE f) (nxtE f) (k+1) s:=by
      rw[setW,if_neg (by omega),nxt_of h1];simp
     have e4:j+1+((k:Int)+1)=j+(((k+1:Nat):Int)+1):=by omega
     rw[e3,←List.append_assoc,←e4]
     exact h4
theorem setW_der {f:Nat}(ih:∀v r,pastE f v=some r→(∀x∈v,n64 x)→WD f v r)(k:Nat)(m r:List Nd)(hN:∀x∈m,n64 x)(h:partsE (pastE f) (k+1) m=some r):
 ∃a,m=a++r∧Der 9 (setW (wdE f) (nxtE f) (k+1) m) (mkN 5 ((k:Int)+1) [] []::a):=by
 obtain⟨s,h1,h2⟩:=partsE_one h
 obtain⟨a,e1,h3⟩:=(ih m s h1 hN).zero
 have hm:=Der.one (wdE f m) a h3
 cases k with
 | zero=>
   have:=partsE_end h2
   subst this
   refine⟨a,e1,?_⟩
   simpa[setW]using hm
 | succ k=>
   obtain⟨a',e2,h4⟩:=setW_more ih k s r _ _ _ (fun x hx=>hN x (by rw[e1];exact List.mem_append_right _ hx)) hm h2
   refine⟨a++a',by rw[e1,e2,List.append_assoc],?_⟩
   have e3:setW (wdE f) (nxtE f) (k+1+1) m=wdE f m++sgW [44]::setW (wdE f) (nxtE f) (k+1) s:=by
    rw[setW,if_neg (by omega),nxt_of h1]
   have e4:1+((k:Int)+1)=((k+1:Nat):Int)+1:=by omega
   rw[e3,←e4]
   exact h4
theorem recLoop_one {pv:List Nd→Option (List Nd)}{k:Nat}{last:ByteArray}{v r:List Nd}(h:recLoop pv (k+1) last v=some r):∃x m s,v=x::m∧x.op=7∧ndOk x=true∧cmpB last x.s<0∧pv m=some s∧recLoop pv k x.s s=some r:=by
 cases v with
 | nil=>simp[recLoop]at h
 | cons x m=>
   simp only[recLoop]at h
   split at h
   · rename_i hc
     cases e:pv m with
     | none=>rw[e]at h;cases h
     | some s=>rw[e]at h;exact⟨x,m,s,rfl,hc.1,hc.2.1,hc.2.2,e,h⟩
   · cases h
theorem recLoop_none {pv:List Nd→Option (List Nd)}{last:ByteArray}{v r:List Nd}(h:recLoop pv 0 last v=some r):v=r:=by simpa[recLoop]using h
theorem field_eq {x:Nd}(h7:x.op=7)(h:ndOk x=true):x=mkN 7 0 x.s.data.toList []:=by
 have h':=nd_eq x
 unfold ndOk at h
 rw[h7]at h
 simp at h
 rw[h7,h.1.1,show x.t.data.toList=[] from by simpa using h.1.2]at h'
 exact h'
theorem last_ge:∀(n:Nat) (l:List UInt8),l.length≤n→(∀c∈l,c.toNat≤122)→¬Lib.compareBytes (List.replicate n 122) l<0
 | 0,[],_,_=>by simp[Lib.compareBytes]
 | n+1,[],_,_=>by simp[List.replicate_succ,Lib.compareBytes]
 | 0,c::r,h,_=>by simp at h
 | n+1,c::r,h,hc=>by
   have h1:=hc c (List.mem_cons_self ..)
   have h2:¬(122:UInt8)<c:=by rw[UInt8.lt_iff_toNat_lt];simp;omega
   rw[List.replicate_succ,Lib.compareBytes,if_neg h2]
   split
   · decide
   · exact last_ge n r (by simp at h;omega) (fun d hd=>hc d (List.mem_cons_of_mem _ hd))
theorem name_low {l:List UInt8}(h:nfault l=0):l.length≤20∧∀c∈l,c.toNat≤122:=by
 unfold nfault at h
 split at h
 · rename_i hn
   split at h
   · cases h
   · refine⟨by omega,?_⟩
     unfold nm at hn
     rw[Bool.and_eq_true]at hn
     cases l with
     | nil=>intro c hc;cases hc
     | cons a r=>
       have hp:=hn.1
       simp only[pre,Bool.and_eq_true,List.all_eq_true]at hp
       intro c hc
       rcases List.mem_cons.1 hc with e | e
       · subst e
         have:=hp.1
         unfold letb at this
         simp at this;omega
       · have:=hp.2 c e
         unfold letb digb at this
         simp at this;omega
 · cases h
theorem com_field {x:Nd}{nm:ByteArray}(h7:x.op=7)(h:ndOk x=true)(hc:cmpB nm x.s<0):comR nm.data.toList (sgW [44])=true:=by
 have hn:nfault x.s.data.toList=0:=by
  unfold ndOk at h
  rw[h7]at h
  simp at h
  exact h.2
 have hne:nm.data.toList≠wLast:=by
  intro e
  obtain⟨h1,h2⟩:=name_low hn
  unfold cmpB at hc
  rw[e]at hc
  exact last_ge 20 _ h1 h2 hc
 unfold comR
 rw[show sgn (sgW [44]) [44]=true from rfl,show(nm.data.toList == wLast)=false from by simpa using hne]
 rfl
theorem recW_more {f:Nat}(ih:∀v r,pastE f v=some r→(∀x∈v,n64 x)→WD f v r):∀(k:Nat) (m r:List Nd) (p:List Tk) (j:Int) (nm:ByteArray) (acc:List Nd),(∀x∈m,n64 x)→Der 10 p (mkN 6 j nm.data.toList []::acc)→
 recLoop (pastE f) (k+1) nm m=some r→∃a nm',m=a++r∧Der 10 (p++sgW [44]::recW (wdE f) (nxtE f) (k+1) m) (mkN 6 (j+(k+1)) nm' []::(acc++a))
 | k,m,r,p,j,nm,acc,hN,hp,h=>by
   obtain⟨x,m',s,e0,h7,hx,hc,h1,h2⟩:=recLoop_one h
   subst e0
   obtain⟨a,e1,h3⟩:=(ih m' s h1 (fun y hy=>hN y (List.mem_cons_of_mem _ hy))).zero
   have hm:=Der.fmore (sgW [44]) (nmW x.s.data.toList) (sgW [58]) j nm.data.toList p (wdE f m') acc a (com_field h7 hx hc) rfl hc rfl hp h3
   have el:(nmW x.s.data.toList).l=x.s.data.toList:=rfl
   rw[el,←field_eq h7 hx]at hm
   cases k with
   | zero=>
     have:=recLoop_none h2
     subst this
     refine⟨x::a,x.s.data.toList,by rw[e1];rfl,?_⟩
     simpa[recW]using hm
   | succ k=>
     obtain⟨a',nm',e2,h4⟩:=recW_more ih k s r _ _ _ _ (fun y hy=>hN y (by rw[e1];exact List.mem_cons_of_mem _ (List.mem_append_right _ hy))) hm h2
     refine⟨x::(a++a'),nm',by rw[e1,e2];simp,?_⟩
     have e3:p++sgW [44]::recW (wdE f) (nxtE f) (k+1+1) (x::m')=p++sgW [44]::nmW x.s.data.toList::sgW [58]::wdE f m'++sgW [44]::recW (wdE f) (nxtE f) (k+1) s:=by
      rw[recW,if_neg (by omega),nxt_of h1];simp
     have e4:j+1+((k:Int)+1)=j+(((k+1:Nat):Int)+1):=by omega
     have e5:acc++x::(a++a')=acc++x::a++a':=by simp
     rw[e3,←e4,e5]
     exact h4
theorem recW_der {f:Nat}(ih:∀v r,pastE f v=some r→(∀x∈v,n64 x)→WD f v r)(k:Nat)(m r:List Nd)(hN:∀x∈m,n64 x)(h:recLoop (pastE f) (k+1) ⟨#[]⟩ m=some r):
 ∃a nm,m=a++r∧Der 10 (recW (wdE f) (nxtE f) (k+1) m) (mkN 6 ((k:Int)+1) nm []::a):=by
 obtain⟨x,m',s,e0,h7,hx,hc,h1,h2⟩:=recLoop_one h
 subst e0
 obtain⟨a,e1,h3⟩:=(ih m' s h1 (fun y hy=>hN y (List.mem_cons_of_mem _ hy))).zero
 have hm:=Der.fone (nmW x.s.data.toList) (sgW [58]) (wdE f m') a rfl hc rfl h3
 have el:(nmW x.s.data.toList).l=x.s.data.toList:=rfl
 rw[el,←field_eq h7 hx]at hm
 cases k with
 | zero=>
   have:=recLoop_none h2
   subst this
   refine⟨x::a,x.s.data.toList,by rw[e1];rfl,?_⟩
   simpa[recW]using hm
 | succ k=>
   obtain⟨a',nm',e2,h4⟩:=recW_more ih k s r _ _ _ _ (fun y hy=>hN y (by rw[e1];exact List.mem_cons_of_mem _ (List.mem_append_right _ hy))) hm h2
   refine⟨x::(a++a'),nm',by rw[e1,e2];simp,?_⟩
   have e3:recW (wdE f) (nxtE f) (k+1+1) (x::m')=nmW x.s.data.toList::sgW [58]::wdE f m'++sgW [44]::recW (wdE f) (nxtE f) (k+1) s:=by
    rw[recW,if_neg (by omega),nxt_of h1];simp
   have e4:1+((k:Int)+1)=((k+1:Nat):Int)+1:=by omega
   have e5:x::(a++a')=x::a++a':=by simp
   rw[e3,←e4,e5]
   exact h4
theorem ex_rng {x:Nd}(h:exOk x=true):1≤x.op∧x.op≤27:=by
 unfold exOk at h
 split at h
 · omega
 · split at h
   · cases h
   · rename_i h1 h2
     unfold prt at h2
     split at h2
     · omega
     · split at h2
       · omega
       · split at h2
         · omega
         · split at h2
           · omega
           · split at h2
             · omega
             · omega
theorem ex_plain {x:Nd}(h:exOk x=true)(h9:9≤x.op)(hn:¬(21≤x.op∧x.op≤24)):x=opN x.op:=by
 have hr:=ex_rng h
 unfold exOk at h
 rw[if_neg (by omega)]at h
 split at h
 · cases h
 · rw[if_neg (by omega),if_neg (by omega),if_neg (by omega)]at h
   simp only[Bool.and_eq_true,beq_iff_eq]at h
   have e:=nd_eq x
   rw[h.1.1,data_nil h.1.2,data_nil h.2]at e
   exact e
theorem ex_named {x:Nd}(h:exOk x=true)(h9:8≤x.op)(hn:x.op=8∨21≤x.op∧x.op≤24):x=mkN x.op 0 x.s.data.toList []:=by
 unfold exOk at h
 rw[if_neg (by omega)]at h
 split at h
 · cases h
 · simp only[Bool.and_eq_true,beq_iff_eq]at h
   have e:=nd_eq x
   rw[h.1.1,data_nil h.1.2]at e
   exact e
theorem ex_name {x:Nd}(h:exOk x=true)(hn:x.op=21∨x.op=22∨x.op=24):nfault x.s.data.toList=0:=by
 unfold exOk at h
 rw[if_neg (by omega)]at h
 split at h
 · cases h
 · rw[if_neg (by omega)]at h
   simp only[Bool.and_eq_true,beq_iff_eq]at h
   exact h.2
theorem ex_var {x:Nd}(h:exOk x=true)(h8:x.op=8):varOk x.s.data.toList=true:=by
 unfold exOk at h
 rw[if_neg (by omega)]at h
 split at h
 · cases h
 · simp only[Bool.and_eq_true,beq_iff_eq]at h
   exact h.2
theorem ex_value {x:Nd}(h:exOk x=true)(h7:x.op≤7):ndOk x=true:=by
 have:=ex_rng h
 unfold exOk at h
 rw[if_pos (by omega)]at h
 exact h
theorem lvl_sign {op:Int}(h:lftL (lvO op))(h8:1≤op∧op≤27):lvlS (lvO op) (signW op)=true∧opOf (signW op)=op:=by
 have:op=11∨op=12∨op=17∨op=18∨op=19:=by
  unfold lvO lftL at h
  repeat' split at h
  all_goals omega
 rcases this with h | h | h | h | h<;>subst h<;>decide
theorem rel_sign {op:Int}(h:lvO op=3)(h2:op≠21∧op≠23∧op≠24):relS (signW op)=true∧opOf (signW op)=op:=by
 have:op=14∨op=15∨op=16∨op=20:=by
  unfold lvO at h
  repeat' split at h
  all_goals omega
 rcases this with h | h | h | h<;>subst h<;>decide
theorem call_sign {op:Int}(h:lvO op=7)(h2:op≠22):isCall (nmW (callW op))=true∧callOp (nmW (callW op))=op:=by
 have:op=25∨op=26∨op=27:=by
  unfold lvO at h
  repeat' split at h
  all_goals omega
 rcases this with h | h | h<;>subst h<;>decide
theorem atom_der {x:Nd}(hx:exOk x=true)(hn:n64 x)(ho:x.op=1∨x.op=2∨x.op=3∨x.op=4∨x.op=8):Der 8 (atomW x) [x]:=by
 have e:=nd_eq x
 rcases ho with h | h | h | h | h
 · have hv:=ex_value hx (by omega)
   unfold ndOk at hv
   rw[if_pos h]at hv
   simp only[Bool.and_eq_true,Bool.or_eq_true,beq_iff_eq]at hv
   rw[h,data_nil hv.1.1,data_nil hv.1.2]at e
   unfold atomW
   rw[if_pos h]
   rcases hv.2 with h0 | h0
   · rw[h0]at e
     rw[h0,if_neg (by omega),e];exact Der.no _ rfl
   · rw[h0]at e
     rw[h0,if_pos rfl,e];exact Der.yes _ rfl
 · have hv:=ex_value hx (by omega)
   unfold ndOk at hv
   rw[if_neg (by omega),if_pos h]at hv
   simp only[Bool.and_eq_true]at hv
   rw[h,data_nil hv.1,data_nil hv.2]at e
   have hn:=hn h
   unfold atomW
   rw[if_neg (by omega),if_pos h]
   by_cases h0:x.n<0
   · rw[if_pos h0]
     have:=Der.mnum (sgW [45]) (numW x.n.natAbs) rfl rfl (numW_great (by simp;omega))
     rw[numW_val]at this
     have e2:(if true=true then-(x.n.natAbs:Int)else(x.n.natAbs:Int))=x.n:=by simp;omega
     rw[e2,←e]at this
     exact this
   · rw[if_neg h0]
     have:=Der.num (numW x.n.natAbs) rfl (numW_great (by simp;omega))
     rw[numW_val]at this
     have e2:(if false=true then-(x.n.natAbs:Int)else(x.n.natAbs:Int))=x.n:=by simp;omega
     rw[e2,←e]at this
     exact this
 · have hv:=ex_value hx (by omega)
   unfold ndOk at hv
   rw[if_neg (by omega),if_neg (by omega),if_pos h]at hv
   simp only[Bool.and_eq_true,beq_iff_eq]at hv
   rw[h,hv.1.1,data_nil hv.1.2]at e
   unfold atomW
   rw[if_neg (by omega),if_neg (by omega),if_pos h]
   have:=Der.text (qtW x.s.data.toList) rfl
   rw[show(qtW x.s.data.toList).l=x.s.data.toList from rfl,←e]at this
   exact this
 · have hv:=ex_value hx (by omega)
   unfold ndOk at hv
   rw[if_neg (by omega),if_neg (by omega),if_neg (by omega),if_pos h]at hv
   simp only[Bool.and_eq_true,beq_iff_eq]at hv
   rw[h,hv.1.1]at e
   unfold atomW
   rw[if_neg (by omega),if_neg (by omega),if_neg (by omega),if_pos h]
   have:=Der.ent (nmW x.s.data.toList) (sgW [58,58]) (qtW x.t.data.toList) rfl rfl rfl
   rw[show(nmW x.s.data.toList).l=x.s.data.toList from rfl,show(qtW x.t.data.toList).l=x.t.data.toList from rfl,←e]at this
   exact this
 · have hv:=ex_var hx h
   have e:=ex_named hx (by omega) (Or.inl h)
   rw[h]at e
   unfold atomW
   rw[if_neg (by omega),if_neg (by omega),if_neg (by omega),if_neg (by omega)]
   unfold varOk at hv
   by_cases hq:x.s.data.toList.head? =some 63
   · rw[if_pos hq]
     have:=Der.slot (mkT 4 x.s.data.toList.tail 0) rfl
     have el:63::(mkT 4 x.s.data.toList.tail 0).l=x.s.data.toList:=by
      show 63::x.s.data.toList.tail=_
      cases hl:x.s.data.toList with
      | nil=>rw[hl]at hq;cases hq
      | cons c r=>rw[hl]at hq;injection hq with hq;rw[hq];rfl
     rw[el,←e]at this
     exact this
   · rw[if_neg hq]at hv ⊢
     simp only[Bool.and_eq_true,beq_iff_eq,Bool.not_eq_true']at hv
     have:=Der.var (nmW x.s.data.toList) rfl (fun ht=>by rw[show x.s.data.toList=wTrue from ht]at hv;exact absurd hv.2 (by decide)) (fun ht=>by rw[show x.s.data.toList=wFalse from ht]at hv;exact absurd hv.2 (by decide)) hv.2
     rw[show(nmW x.s.data.toList).l=x.s.data.toList from rfl,←e]at this
     exact this
theorem negW_der {a:List Tk}{x:List Nd}(h:Der 6 a x):Der 6 (sgW [45]::negW a) (opN 10::x):=by
 unfold negW
 by_cases hn:nextNum a=true
 · rw[if_pos hn]
   exact Der.neg _ _ _ rfl rfl (der_brk (der_to h (by omega) (by omega)) (by omega))
 · rw[if_neg hn]
   exact Der.neg _ _ _ rfl (by simpa using hn) h
theorem wd_der:∀(f:Nat) (v r:List Nd),pastE f v=some r→(∀x∈v,n64 x)→WD f v r
 | 0,v,r,h,_=>by simp[pastE]at h
 | f+1,v,r,h,hN=>by
   have ih:=wd_der f
   obtain⟨g,x,m,e,e',h7,hx,hr⟩:=pastE_cons h
   obtain rfl:f=g:=by omega
   subst e'
   have hr1:=ex_rng hx
   have hNm:∀y∈m,n64 y:=fun y hy=>hN y (List.mem_cons_of_mem _ hy)
   unfold WD
   show ∃a,x::m=a++r∧Der (lvO x.op) (wdE (f+1) (x::m)) a
   rw[wdE]
   by_cases c13:x.op=13
   · rw[if_pos c13]
     rcases hr with⟨h6,_⟩ | ⟨_,hp⟩
     · omega
     · have e3:(prt x).toNat=3:=by unfold prt;rw[c13];rfl
       rw[e3]at hp
       obtain⟨s1,p1,hp⟩:=partsE_one hp
       obtain⟨s2,p2,hp⟩:=partsE_one hp
       obtain⟨s3,p3,hp⟩:=partsE_one hp
       obtain⟨a1,e1,d1⟩:=(ih m s1 p1 hNm).zero
       have hN1:∀y∈s1,n64 y:=fun y hy=>hNm y (by rw[e1];exact List.mem_append_right _ hy)
       obtain⟨a2,e2,d2⟩:=(ih s1 s2 p2 hN1).zero
       have hN2:∀y∈s2,n64 y:=fun y hy=>hN1 y (by rw[e2];exact List.mem_append_right _ hy)
       obtain⟨a3,e3,d3⟩:=(ih s2 s3 p3 hN2).zero
       have e4:=partsE_end hp
       subst e4
       refine⟨x::(a1++(a2++a3)),by rw[e1,e2,e3];simp,?_⟩
       rw[nxt_of p1,nxt_of p2,ex_plain hx (by omega) (by omega),c13]
       exact Der.ite _ _ _ _ _ _ _ _ _ rfl rfl rfl d1 d2 d3
   rw[if_neg c13]
   by_cases cl:lvO x.op=1∨lvO x.op=2∨lvO x.op=4∨lvO x.op=5
   · rw[if_pos cl]
     obtain⟨s1,s2⟩:=lvl_sign cl hr1
     have ho:11≤x.op∧x.op≤19:=by
      unfold lvO at cl
      repeat' split at cl
      all_goals omega
     rcases hr with⟨h6,_⟩ | ⟨_,hp⟩
     · omega
     · have e3:(prt x).toNat=2:=by
        unfold prt
        rw[if_neg (by omega),if_neg (by omega),if_neg (by omega),if_neg (by omega),if_pos (by omega)];rfl
       rw[e3]at hp
       obtain⟨r1,p1,hp⟩:=partsE_one hp
       obtain⟨r2,p2,hp⟩:=partsE_one hp
       obtain⟨a1,e1,d1⟩:=(ih m r1 p1 hNm).part (lvO x.op) (lvO_le _)
       have hN1:∀y∈r1,n64 y:=fun y hy=>hNm y (by rw[e1];exact List.mem_append_right _ hy)
       obtain⟨a2,e2,d2⟩:=(ih r1 r2 p2 hN1).part (lvO x.op+1) (by omega)
       have e4:=partsE_end hp
       subst e4
       refine⟨x::(a1++a2),by rw[e1,e2];simp,?_⟩
       rw[nxt_of p1]
       have:=Der.bin (lvO x.op) (signW x.op) _ _ _ _ cl s1 d1 d2
       rw[s2,←ex_plain hx (by omega) (by omega)]at this
       exact this
   rw[if_neg cl]
   by_cases c3:lvO x.op=3
   · rw[if_pos c3]
     have ho:14≤x.op∧x.op≤16∨x.op=20∨x.op=21∨x.op=23∨x.op=24:=by
      unfold lvO at c3
      repeat' split at c3
      all_goals omega
     rcases hr with⟨h6,_⟩ | ⟨_,hp⟩
     · omega
     · by_cases c21:x.op=21∨x.op=23∨x.op=24
       · have e3:(prt x).toNat=1:=by
          unfold prt
          rw[if_neg (by omega),if_neg (by omega),if_pos (by omega)];rfl
         rw[e3]at hp
         obtain⟨r1,p1,hp⟩:=partsE_one hp
         obtain⟨a1,e1,d1⟩:=(ih m r1 p1 hNm).part 4 (by omega)
         have e4:=partsE_end hp
         subst e4
         refine⟨x::a1,by rw[e1];simp,?_⟩
         have ex:=ex_named hx (by omega) (by omega)
         rw[c3]
         rcases c21 with c | c | c
         · rw[if_pos c]
           have:=Der.has (nmW wHas) (nmW x.s.data.toList) _ _ rfl rfl d1
           rw[show nam (nmW wHas) wHas=true from rfl,if_pos rfl,show(nmW x.s.data.toList).l=x.s.data.toList from rfl]at this
           rw[c]at ex
           rw[←ex]at this
           exact this
         · rw[if_neg (by omega),if_neg (by omega),if_pos c]
           have:=Der.like (nmW wLike) (qtW x.s.data.toList) _ _ rfl rfl d1
           rw[show(qtW x.s.data.toList).l=x.s.data.toList from rfl]at this
           rw[c]at ex
           rw[←ex]at this
           exact this
         · rw[if_neg (by omega),if_pos c]
           have:=Der.has (nmW wIs) (nmW x.s.data.toList) _ _ rfl rfl d1
           rw[show nam (nmW wIs) wHas=false from rfl,if_neg (by decide),show(nmW x.s.data.toList).l=x.s.data.toList from rfl]at this
           rw[c]at ex
           rw[←ex]at this
           exact this
       · have e3:(prt x).toNat=2:=by
          unfold prt
          rw[if_neg (by omega),if_neg (by omega),if_neg (by omega),if_neg (by omega),if_pos (by omega)];rfl
         rw[e3]at hp
         obtain⟨r1,p1,hp⟩:=partsE_one hp
         obtain⟨r2,p2,hp⟩:=partsE_one hp
         obtain⟨a1,e1,d1⟩:=(ih m r1 p1 hNm).part 4 (by omega)
         have hN1:∀y∈r1,n64 y:=fun y hy=>hNm y (by rw[e1];exact List.mem_append_right _ hy)
         obtain⟨a2,e2,d2⟩:=(ih r1 r2 p2 hN1).part 4 (by omega)
         have e4:=partsE_end hp
         subst e4
         refine⟨x::(a1++a2),by rw[e1,e2];simp,?_⟩
         obtain⟨s1,s2⟩:=rel_sign c3 (by omega)
         rw[if_neg (by omega),if_neg (by omega),if_neg (by omega),nxt_of p1,c3]
         have:=Der.rel (signW x.op) _ _ _ _ s1 d1 d2
         rw[s2,←ex_plain hx (by omega) (by omega)]at this
         exact this
   rw[if_neg c3]
   by_cases c9:x.op=9∨x.op=10
   · have e6:lvO x.op=6:=by rcases c9 with c | c<;>rw[c]<;>rfl
     rcases hr with⟨h6,_⟩ | ⟨_,hp⟩
     · omega
     · have e3:(prt x).toNat=1:=by
        unfold prt
        rw[if_neg (by omega),if_neg (by omega),if_pos (by omega)];rfl
       rw[e3]at hp
       obtain⟨r1,p1,hp⟩:=partsE_one hp
       obtain⟨a1,e1,d1⟩:=(ih m r1 p1 hNm).part 6 (by omega)
       have e4:=partsE_end hp
       subst e4
       refine⟨x::a1,by rw[e1];simp,?_⟩
       have ex:=ex_plain hx (by omega) (by omega)
       rw[e6]
       rcases c9 with c | c
       · rw[if_pos c]
         rw[c]at ex
         rw[ex]
         exact Der.not _ _ _ rfl d1
       · rw[if_neg (by omega),if_pos c]
         rw[c]at ex
         rw[ex]
         exact negW_der d1
   rw[if_neg (by omega),if_neg (by omega)]
   by_cases c7:lvO x.op=7
   · rw[if_pos c7]
     have ho:x.op=22∨25≤x.op∧x.op≤27:=by
      unfold lvO at c7
      repeat' split at c7
      all_goals omega
     rcases hr with⟨h6,_⟩ | ⟨_,hp⟩
     · omega
     · by_cases c:x.op=22
       · have e3:(prt x).toNat=1:=by
          unfold prt
          rw[if_neg (by omega),if_neg (by omega),if_pos (by omega)];rfl
         rw[e3]at hp
         obtain⟨r1,p1,hp⟩:=partsE_one hp
         obtain⟨a1,e1,d1⟩:=(ih m r1 p1 hNm).part 7 (by omega)
         have e4:=partsE_end hp
         subst e4
         refine⟨x::a1,by rw[e1];simp,?_⟩
         have ex:=ex_named hx (by omega) (by omega)
         rw[c7,if_pos c]
         have:=Der.get (sgW [46]) (nmW x.s.data.toList) _ _ rfl rfl d1
         rw[show(nmW x.s.data.toList).l=x.s.data.toList from rfl]at this
         rw[c]at ex
         rw[←ex]at this
         exact this
       · have e3:(prt x).toNat=2:=by
          unfold prt
          rw[if_neg (by omega),if_neg (by omega),if_neg (by omega),if_neg (by omega),if_pos (by omega)];rfl
         rw[e3]at hp
         obtain⟨r1,p1,hp⟩:=partsE_one hp
         obtain⟨r2,p2,hp⟩:=partsE_one hp
         obtain⟨a1,e1,d1⟩:=(ih m r1 p1 hNm).part 7 (by omega)
         have hN1:∀y∈r1,n64 y:=fun y hy=>hNm y (by rw[e1];exact List.mem_append_right _ hy)
         obtain⟨a2,e2,d2⟩:=(ih r1 r2 p2 hN1).zero
         have e4:=partsE_end hp
         subst e4
         refine⟨x::(a1++a2),by rw[e1,e2];simp,?_⟩
         obtain⟨s1,s2⟩:=call_sign c7 c
         rw[if_neg c,nxt_of p1,c7]
         have:=Der.call (sgW [46]) (nmW (callW x.op)) (sgW [40]) (sgW [41]) _ _ _ _ rfl rfl s1 rfl rfl d1 d2
         rw[s2,←ex_plain hx (by omega) (by omega)]at this
         exact this
   rw[if_neg c7]
   have h8:lvO x.op=8:=by
    unfold lvO at cl c3 c7 ⊢
    repeat' split
    all_goals first | rfl | (simp_all;done) | omega
   rw[h8]
   by_cases c5:x.op=5
   · rw[if_pos c5]
     rcases hr with⟨h6,_⟩ | ⟨_,hp⟩
     · omega
     · have hv:=ex_value hx (by omega)
       unfold ndOk at hv
       rw[if_neg (by omega),if_neg (by omega),if_neg (by omega),if_neg (by omega),if_pos (by omega)]at hv
       simp only[Bool.and_eq_true,decide_eq_true_eq]at hv
       have ex:=nd_eq x
       rw[c5,data_nil hv.1.1,data_nil hv.1.2]at ex
       have e3:prt x=x.n:=by unfold prt;rw[if_pos (by omega)]
       rw[e3]at hp
       cases hk:x.n.toNat with
       | zero=>
         rw[hk]at hp
         have e4:=partsE_end hp
         subst e4
         have e0:x.n=0:=by omega
         rw[e0]at ex
         refine⟨[x],rfl,?_⟩
         rw[ex];exact Der.set0 _ _ rfl rfl
       | succ k=>
         rw[hk]at hp
         obtain⟨a,e1,d⟩:=setW_der (fun v r=>ih v r) k m r hNm hp
         have e0:x.n=(k:Int)+1:=by omega
         rw[e0]at ex
         refine⟨x::a,by rw[e1];rfl,?_⟩
         rw[ex];exact Der.set _ _ _ _ rfl rfl d
   rw[if_neg c5]
   by_cases c6:x.op=6
   · rw[if_pos c6]
     rcases hr with⟨_,hp⟩ | ⟨h6,_⟩
     · have hv:=ex_value hx (by omega)
       unfold ndOk at hv
       rw[if_neg (by omega),if_neg (by omega),if_neg (by omega),if_neg (by omega),if_pos (by omega)]at hv
       simp only[Bool.and_eq_true,decide_eq_true_eq]at hv
       have ex:=nd_eq x
       rw[c6,data_nil hv.1.1,data_nil hv.1.2]at ex
       cases hk:x.n.toNat with
       | zero=>
         rw[hk]at hp
         have e4:=recLoop_none hp
         subst e4
         have e0:x.n=0:=by omega
         rw[e0]at ex
         refine⟨[x],rfl,?_⟩
         rw[ex]
         show Der 8 (sgW [123]::([]++[sgW [125]])) _
         exact Der.rec0 _ _ rfl rfl
       | succ k=>
         rw[hk]at hp
         obtain⟨a,nm,e1,d⟩:=recW_der (fun v r=>ih v r) k m r hNm hp
         have e0:x.n=(k:Int)+1:=by omega
         rw[e0]at ex
         refine⟨x::a,by rw[e1];rfl,?_⟩
         rw[ex];exact Der.fields _ _ _ _ _ _ rfl rfl d
     · exact absurd c6 h6
   rw[if_neg c6]
   have ho:x.op=1∨x.op=2∨x.op=3∨x.op=4∨x.op=8:=by
    unfold lvO at h8
    repeat' split at h8
    all_goals omega
   rcases hr with⟨h6,_⟩ | ⟨_,hp⟩
   · omega
   · have e3:(prt x).toNat=0:=by unfold prt;rw[if_neg (by omega),if_pos (by omega)];rfl
     rw[e3]at hp
     have e4:=partsE_end hp
     subst e4
     exact⟨[x],rfl,atom_der hx (hN x List.mem_cons_self) ho⟩
theorem ex_der {v:List Nd}(h:pastE (v.length+1) v=some [])(hN:∀x∈v,n64 x):Der 0 (wdE (v.length+1) v) v:=by
 obtain⟨a,h1,h2⟩:=(wd_der _ v [] h hN).zero
 rw[List.append_nil]at h1
 rw[←h1]at h2;exact h2
def AllS (l:List Tk):Prop:=∀t∈l,spB t=true
theorem AllS.nil:AllS []:=fun _ h=>by cases h
theorem AllS.cons {t:Tk}{l:List Tk}(h:spB t=true)(hl:AllS l):AllS (t::l):=fun u hu=>by
 rcases List.mem_cons.1 hu with e | e
 · rw[e];exact h
 · exact hl u e
theorem AllS.append {a b:List Tk}(ha:AllS a)(hb:AllS b):AllS (a++b):=fun u hu=>by
 rcases List.mem_append.1 hu with e | e
 · exact ha u e
 · exact hb u e
theorem spB_name {l:List UInt8}(h:nfault l=0):spB (nmW l)=true:=word1_spB 0 (word_name h)
theorem spB_text {l:List UInt8}(h:textOk l=true):spB (qtW l)=true:=word1_spB 0 (word_quo h)
theorem spB_slotW {l:List UInt8}(h:nfault l=0):spB (mkT 4 l 0)=true:=word1_spB 0 (word_slot h)
theorem spB_num {n:Nat}(h:n≤9223372036854775808):spB (numW n)=true:=by
 have:=word_num (decL_dig n) (decL_ne n) (by rw[decL_zero];exact decL_len 18 n (by omega))
 rw[decL_zero]at this
 exact word1_spB 0 this
theorem spB_sg {l:List UInt8}(h:word1 l= .ok (5,l,l.length)):spB (sgW l)=true:=word1_spB 0 h
theorem spB_nm {l:List UInt8}(h:word1 l= .ok (1,l,l.length)):spB (nmW l)=true:=word1_spB 0 h
theorem AllS.brk {a:List Tk}(h:AllS a):AllS (brk a):=AllS.cons (spB_sg rfl) (h.append (AllS.cons (spB_sg rfl) AllS.nil))
theorem AllS.part {w:List Nd→List Tk}{l:Nat}{v:List Nd}(h:AllS (w v)):AllS (partW w l v):=by
 unfold partW;split
 · exact h.brk
 · exact h
theorem AllS.neg {a:List Tk}(h:AllS a):AllS (negW a):=by
 unfold negW;split
 · exact h.brk
 · exact h
theorem signW_spB (op:Int):spB (signW op)=true:=by
 unfold signW
 repeat' split
 all_goals first | exact spB_sg rfl | exact spB_nm rfl
theorem callW_spB (op:Int):spB (nmW (callW op))=true:=by
 unfold callW
 repeat' split
 all_goals exact spB_nm rfl
theorem setW_spB {f:Nat}(ih:∀v r,pastE f v=some r→(∀x∈v,n64 x)→AllS (wdE f v)):∀(k:Nat) (m r:List Nd),(∀x∈m,n64 x)→partsE (pastE f) k m=some r→AllS (setW (wdE f) (nxtE f) k m)
 | 0,_,_,_,_=>AllS.nil
 | k+1,m,r,hN,h=>by
   obtain⟨s,h1,h2⟩:=partsE_one h
   rw[setW]
   refine(ih m s h1 hN).append ?_
   split
   · exact AllS.nil
   · rw[nxt_of h1]
     obtain⟨_,a,e⟩:=pastE_shorter h1
     exact AllS.cons (spB_sg rfl) (setW_spB ih k s r (fun x hx=>hN x (by rw[e];exact List.mem_append_right _ hx)) h2)
theorem recW_spB {f:Nat}(ih:∀v r,pastE f v=some r→(∀x∈v,n64 x)→AllS (wdE f v)):∀(k:Nat) (nm:ByteArray) (m r:List Nd),(∀x∈m,n64 x)→recLoop (pastE f) k nm m=some r→AllS (recW (wdE f) (nxtE f) k m)
 | 0,_,_,_,_,_=>AllS.nil
 | k+1,nm,m,r,hN,h=>by
   obtain⟨x,m',s,e0,h7,hx,hc,h1,h2⟩:=recLoop_one h
   subst e0
   rw[recW]
   have hn:nfault x.s.data.toList=0:=by
    unfold ndOk at hx
    rw[h7]at hx
    simp at hx
    exact hx.2
   refine AllS.cons (spB_name hn) (AllS.cons (spB_sg rfl) ((ih m' s h1 (fun y hy=>hN y (List.mem_cons_of_mem _ hy))).append ?_))
   split
   · exact AllS.nil
   · rw[nxt_of h1]
     obtain⟨_,a,e⟩:=pastE_shorter h1
     exact AllS.cons (spB_sg rfl) (recW_spB ih k _ s r (fun y hy=>hN y (by rw[e];exact List.mem_cons_of_mem _ (List.mem_append_right _ hy))) h2)
theorem atom_spB {x:Nd}(hx:exOk x=true)(hn:n64 x)(ho:x.op=1∨x.op=2∨x.op=3∨x.op=4∨x.op=8):AllS (atomW x):=by
 unfold atomW
 rcases ho with h | h | h | h | h
 · rw[if_pos h]
   split<;>exact AllS.cons (spB_nm rfl) AllS.nil
 · have hn:=hn h
   rw[if_neg (by omega),if_pos h]
   split
   · exact AllS.cons (spB_sg rfl) (AllS.cons (spB_num (by omega)) AllS.nil)
   · exact AllS.cons (spB_num (by omega)) AllS.nil
 · have hv:=ex_value hx (by omega)
   unfold ndOk at hv
   rw[if_neg (by omega),if_neg (by omega),if_pos h]at hv
   simp only[Bool.and_eq_true,beq_iff_eq]at hv
   rw[if_neg (by omega),if_neg (by omega),if_pos h]
   exact AllS.cons (spB_text hv.2) AllS.nil
 · have hv:=ex_value hx (by omega)
   unfold ndOk at hv
   rw[if_neg (by omega),if_neg (by omega),if_neg (by omega),if_pos h]at hv
   simp only[Bool.and_eq_true,beq_iff_eq]at hv
   rw[if_neg (by omega),if_neg (by omega),if_neg (by omega),if_pos h]
   exact AllS.cons (spB_name hv.1.2) (AllS.cons (spB_sg rfl) (AllS.cons (spB_text hv.2) AllS.nil))
 · have hv:=ex_var hx h
   unfold varOk at hv
   rw[if_neg (by omega),if_neg (by omega),if_neg (by omega),if_neg (by omega)]
   by_cases hq:x.s.data.toList.head? =some 63
   · rw[if_pos hq]at hv ⊢
     exact AllS.cons (spB_slotW (by simpa using hv)) AllS.nil
   · rw[if_neg hq]at hv ⊢
     simp only[Bool.and_eq_true,beq_iff_eq]at hv
     exact AllS.cons (spB_name hv.1) AllS.nil
theorem wd_spB:∀(f:Nat) (v r:List Nd),pastE f v=some r→(∀x∈v,n64 x)→AllS (wdE f v)
 | 0,v,r,h,_=>by simp[pastE]at h
 | f+1,v,r,h,hN=>by
   have ih:=wd_spB f
   obtain⟨g,x,m,e,e',h7,hx,hr⟩:=pastE_cons h
   obtain rfl:f=g:=by omega
   subst e'
   have hr1:=ex_rng hx
   have hNm:∀y∈m,n64 y:=fun y hy=>hN y (List.mem_cons_of_mem _ hy)
   have one:1≤(prt x).toNat→x.op≠6→∃s1,pastE f m=some s1∧AllS (wdE f m)∧(∀y∈s1,n64 y)∧partsE (pastE f) ((prt x).toNat-1) s1=some r:=by
    intro h1 h6
    rcases hr with⟨h6',_⟩ | ⟨_,hp⟩
    · exact absurd h6' h6
    · cases hk:(prt x).toNat with
      | zero=>omega
      | succ k=>
        rw[hk]at hp
        obtain⟨s1,p1,hp⟩:=partsE_one hp
        obtain⟨_,a,e⟩:=pastE_shorter p1
        exact⟨s1,p1,ih m s1 p1 hNm,fun y hy=>hNm y (by rw[e];exact List.mem_append_right _ hy),hp⟩
   have two:2≤(prt x).toNat→x.op≠6→∃s2,pastE f (nxtE f m)=some s2∧AllS (wdE f (nxtE f m))∧(∀y∈s2,n64 y)∧partsE (pastE f) ((prt x).toNat-2) s2=some r:=by
    intro h2 h6
    obtain⟨s1,p1,_,hN1,hp⟩:=one (by omega) h6
    rw[nxt_of p1]
    have e:(prt x).toNat-1=(prt x).toNat-2+1:=by omega
    rw[e]at hp
    obtain⟨s2,p2,hp⟩:=partsE_one hp
    obtain⟨_,a,e⟩:=pastE_shorter p2
    exact⟨s2,p2,ih s1 s2 p2 hN1,fun y hy=>hN1 y (by rw[e];exact List.mem_append_right _ hy),hp⟩
   rw[wdE]
   by_cases c13:x.op=13
   · rw[if_pos c13]
     have e3:(prt x).toNat=3:=by unfold prt;rw[c13];rfl
     obtain⟨s1,p1,w1,hN1,hp1⟩:=one (by omega) (by omega)
     obtain⟨s2,p2,w2,hN2,hp2⟩:=two (by omega) (by omega)
     rw[e3]at hp2
     obtain⟨s3,p3,_⟩:=partsE_one hp2
     have w3:=ih s2 s3 p3 hN2
     rw[nxt_of p2]
     exact AllS.cons (spB_nm rfl) (w1.append (AllS.cons (spB_nm rfl) (w2.append (AllS.cons (spB_nm rfl) w3))))
   rw[if_neg c13]
   by_cases cl:lvO x.op=1∨lvO x.op=2∨lvO x.op=4∨lvO x.op=5
   · rw[if_pos cl]
     have ho:11≤x.op∧x.op≤19:=by
      unfold lvO at cl
      repeat' split at cl
      all_goals omega
     have e3:(prt x).toNat=2:=by
      unfold prt
      rw[if_neg (by omega),if_neg (by omega),if_neg (by omega),if_neg (by omega),if_pos (by omega)];rfl
     obtain⟨s1,p1,w1,hN1,hp1⟩:=one (by omega) (by omega)
     obtain⟨s2,p2,w2,hN2,hp2⟩:=two (by omega) (by omega)
     exact w1.part.append (AllS.cons (signW_spB _) w2.part)
   rw[if_neg cl]
   by_cases c3:lvO x.op=3
   · rw[if_pos c3]
     have ho:14≤x.op∧x.op≤16∨x.op=20∨x.op=21∨x.op=23∨x.op=24:=by
      unfold lvO at c3
      repeat' split at c3
      all_goals omega
     have e1:1≤(prt x).toNat:=by
      unfold prt
      rw[if_neg (by omega),if_neg (by omega)]
      by_cases k:x.op=7∨x.op=9∨x.op=10∨21≤x.op∧x.op≤24
      · rw[if_pos k];decide
      · rw[if_neg k,if_neg (by omega),if_pos (by omega)];decide
     obtain⟨s1,p1,w1,hN1,hp1⟩:=one e1 (by omega)
     by_cases c21:x.op=21
     · rw[if_pos c21]
       exact w1.part.append (AllS.cons (spB_nm rfl) (AllS.cons (spB_name (ex_name hx (by omega))) AllS.nil))
     rw[if_neg c21]
     by_cases c24:x.op=24
     · rw[if_pos c24]
       exact w1.part.append (AllS.cons (spB_nm rfl) (AllS.cons (spB_name (ex_name hx (by omega))) AllS.nil))
     rw[if_neg c24]
     by_cases c23:x.op=23
     · rw[if_pos c23]
       have ht:textOk x.s.data.toList=true:=by
        have h:=hx
        unfold exOk at h
        rw[if_neg (by omega)]at h
        split at h
        · cases h
        · rw[if_neg (by omega),if_neg (by omega)]at h
          simp only[Bool.and_eq_true]at h
          exact h.2
       exact w1.part.append (AllS.cons (spB_nm rfl) (AllS.cons (spB_text ht) AllS.nil))
     rw[if_neg c23]
     have e3:(prt x).toNat=2:=by
      unfold prt
      rw[if_neg (by omega),if_neg (by omega),if_neg (by omega),if_neg (by omega),if_pos (by omega)];rfl
     obtain⟨s2,p2,w2,hN2,hp2⟩:=two (by omega) (by omega)
     exact w1.part.append (AllS.cons (signW_spB _) w2.part)
   rw[if_neg c3]
   by_cases c9:x.op=9∨x.op=10
   · have e3:(prt x).toNat=1:=by
      unfold prt
      rw[if_neg (by omega),if_neg (by omega),if_pos (by omega)];rfl
     obtain⟨s1,p1,w1,hN1,hp1⟩:=one (by omega) (by omega)
     rcases c9 with c | c
     · rw[if_pos c];exact AllS.cons (spB_sg rfl) w1.part
     · rw[if_neg (by omega),if_pos c];exact AllS.cons (spB_sg rfl) w1.part.neg
   rw[if_neg (by omega),if_neg (by omega)]
   by_cases c7:lvO x.op=7
   · rw[if_pos c7]
     have ho:x.op=22∨25≤x.op∧x.op≤27:=by
      unfold lvO at c7
      repeat' split at c7
      all_goals omega
     by_cases c:x.op=22
     · have e3:(prt x).toNat=1:=by
        unfold prt
        rw[if_neg (by omega),if_neg (by omega),if_pos (by omega)];rfl
       obtain⟨s1,p1,w1,hN1,hp1⟩:=one (by omega) (by omega)
       rw[if_pos c]
       exact w1.part.append (AllS.cons (spB_sg rfl) (AllS.cons (spB_name (ex_name hx (by omega))) AllS.nil))
     · have e3:(prt x).toNat=2:=by
        unfold prt
        rw[if_neg (by omega),if_neg (by omega),if_neg (by omega),if_neg (by omega),if_pos (by omega)];rfl
       obtain⟨s1,p1,w1,hN1,hp1⟩:=one (by omega) (by omega)
       obtain⟨s2,p2,w2,hN2,hp2⟩:=two (by omega) (by omega)
       rw[if_neg c]
       exact w1.part.append (AllS.cons (spB_sg rfl) (AllS.cons (callW_spB _) w2.brk))
   rw[if_neg c7]
   by_cases c5:x.op=5
   · rw[if_pos c5]
     rcases hr with⟨h6,_⟩ | ⟨_,hp⟩
     · omega
     · have e3:prt x=x.n:=by unfold prt;rw[if_pos (by omega)]
       rw[e3]at hp
       exact AllS.cons (spB_sg rfl) ((setW_spB (fun v r=>ih v r) _ m r hNm hp).append (AllS.cons (spB_sg rfl) AllS.nil))
   rw[if_neg c5]
   by_cases c6:x.op=6
   · rw[if_pos c6]
     rcases hr with⟨_,hp⟩ | ⟨h6,_⟩
     · exact AllS.cons (spB_sg rfl) ((recW_spB (fun v r=>ih v r) _ _ m r hNm hp).append (AllS.cons (spB_sg rfl) AllS.nil))
     · exact absurd c6 h6
   rw[if_neg c6]
   have ho:x.op=1∨x.op=2∨x.op=3∨x.op=4∨x.op=8:=by
    unfold lvO at cl c3 c7
    repeat' split at c7
    all_goals first | omega | (simp_all;done) | (simp_all;omega)
   exact atom_spB hx (hN x List.mem_cons_self) ho
theorem spB_kOk {t:Tk}(h:spB t=true):kOk t=true:=by
 unfold kOk
 by_cases h3:t.kind=3
 · rw[h3];rfl
 by_cases h4:t.kind=4
 · rw[h4];rfl
 unfold spB at h
 rw[if_neg h3,if_neg h4]at h
 cases hl:t.s.data.toList with
 | nil=>rw[hl]at h;cases h
 | cons c r=>
   rw[hl]at h
   simp only[Bool.and_eq_true]at h
   have hw:=whole_to h.2
   rcases word1_inv hw with h1 | h1 | h1 | h1 | h1<;>rw[h1.1]<;>rfl
theorem opX_append {v:List Nd}(h:v≠[])(z:List Nd):opX (v++z)=opX v:=by
 cases v with
 | nil=>exact absurd rfl h
 | cons x m=>rfl
theorem past_ne {f:Nat}{v r:List Nd}(h:pastE f v=some r):v≠[]:=by
 intro e;subst e;rw[pastE_nil]at h;cases h
theorem past_both {f g:Nat}{v r:List Nd}(h:pastE f v=some r)(hg:f≤g)(z:List Nd):pastE g (v++z)=some (r++z):=pastE_append z g v r (pastE_mono h hg)
theorem nxt_both {f g:Nat}{v r:List Nd}(h:pastE f v=some r)(hg:f≤g)(z:List Nd):nxtE g (v++z)=nxtE f v++z:=by rw[nxt_of h,nxt_of (past_both h hg z)]
theorem part_both {w w':List Nd→List Tk}{v v':List Nd}(h:w' v'=w v)(ho:opX v'=opX v)(l:Nat):partW w' l v'=partW w l v:=by unfold partW;rw[h,ho]
theorem setW_both {f g:Nat}(hg:f≤g)(ih:∀v r,pastE f v=some r→∀z,wdE g (v++z)=wdE f v):∀(k:Nat) (m r z:List Nd),partsE (pastE f) k m=some r→setW (wdE g) (nxtE g) k (m++z)=setW (wdE f) (nxtE f) k m
 | 0,_,_,_,_=>rfl
 | k+1,m,r,z,h=>by
   obtain⟨s,h1,h2⟩:=partsE_one h
   rw[setW,setW,ih m s h1 z,nxt_both h1 hg z,nxt_of h1,setW_both hg ih k s r z h2]
theorem recW_both {f g:Nat}(hg:f≤g)(ih:∀v r,pastE f v=some r→∀z,wdE g (v++z)=wdE f v):∀(k:Nat) (nm:ByteArray) (m r z:List Nd),recLoop (pastE f) k nm m=some r→recW (wdE g) (nxtE g) k (m++z)=recW (wdE f) (nxtE f) k m
 | 0,_,m,_,z,_=>by cases m<;>cases z<;>rfl
 | k+1,nm,m,r,z,h=>by
   obtain⟨x,m',s,e0,h7,hx,hc,h1,h2⟩:=recLoop_one h
   subst e0
   rw[List.cons_append,recW,recW,ih m' s h1 z,nxt_both h1 hg z,nxt_of h1,recW_both hg ih k _ s r z h2]
theorem wd_both:∀(f:Nat) (v r:List Nd),pastE f v=some r→∀(g:Nat) (z:List Nd),f≤g→wdE g (v++z)=wdE f v
 | 0,v,r,h,_,_,_=>by simp[pastE]at h
 | f+1,v,r,h,0,z,hg=>absurd hg (by omega)
 | f+1,v,r,h,g+1,z,hg=>by
   have hg':f≤g:=by omega
   have ih:=wd_both f
   obtain⟨g',x,m,e,e',h7,hx,hr⟩:=pastE_cons h
   obtain rfl:f=g':=by omega
   subst e'
   have hr1:=ex_rng hx
   have one:1≤(prt x).toNat→x.op≠6→∃s1,pastE f m=some s1∧wdE g (m++z)=wdE f m∧(∀l,partW (wdE g) l (m++z)=partW (wdE f) l m)∧partsE (pastE f) ((prt x).toNat-1) s1=some r:=by
    intro h1 h6
    rcases hr with⟨h6',_⟩ | ⟨_,hp⟩
    · exact absurd h6' h6
    · cases hk:(prt x).toNat with
      | zero=>omega
      | succ k=>
        rw[hk]at hp
        obtain⟨s1,p1,hp⟩:=partsE_one hp
        have hw:=ih m s1 p1 g z hg'
        exact⟨s1,p1,hw,fun l=>part_both hw (opX_append (past_ne p1) z) l,hp⟩
   have two:2≤(prt x).toNat→x.op≠6→∃s2,pastE f (nxtE f m)=some s2∧wdE g (nxtE g (m++z))=wdE f (nxtE f m)∧(∀l,partW (wdE g) l (nxtE g (m++z))=partW (wdE f) l (nxtE f m))∧
    nxtE g (m++z)=nxtE f m++z∧partsE (pastE f) ((prt x).toNat-2) s2=some r:=by
    intro h2 h6
    obtain⟨s1,p1,_,_,hp⟩:=one (by omega) h6
    rw[nxt_both p1 hg' z,nxt_of p1]
    have e:(prt x).toNat-1=(prt x).toNat-2+1:=by omega
    rw[e]at hp
    obtain⟨s2,p2,hp⟩:=partsE_one hp
    have hw:=ih s1 s2 p2 g z hg'
    exact⟨s2,p2,hw,fun l=>part_both hw (opX_append (past_ne p2) z) l,rfl,hp⟩
   rw[List.cons_append,wdE,wdE]
   by_cases c13:x.op=13
   · rw[if_pos c13,if_pos c13]
     have e3:(prt x).toNat=3:=by unfold prt;rw[c13];rfl
     obtain⟨s1,p1,w1,_,hp1⟩:=one (by omega) (by omega)
     obtain⟨s2,p2,w2,_,n2,hp2⟩:=two (by omega) (by omega)
     rw[e3]at hp2
     obtain⟨s3,p3,_⟩:=partsE_one hp2
     have w3:=ih s2 s3 p3 g z hg'
     have n3:nxtE g (nxtE g (m++z))=s2++z:=by rw[n2,nxt_both p2 hg' z,nxt_of p2]
     rw[w1,w2,n3,w3,nxt_of p2]
   rw[if_neg c13,if_neg c13]
   by_cases cl:lvO x.op=1∨lvO x.op=2∨lvO x.op=4∨lvO x.op=5
   · rw[if_pos cl,if_pos cl]
     have ho:11≤x.op∧x.op≤19:=by
      unfold lvO at cl
      repeat' split at cl
      all_goals omega
     have e3:(prt x).toNat=2:=by
      unfold prt
      rw[if_neg (by omega),if_neg (by omega),if_neg (by omega),if_neg (by omega),if_pos (by omega)];rfl
     obtain⟨s1,p1,w1,q1,hp1⟩:=one (by omega) (by omega)
     obtain⟨s2,p2,w2,q2,n2,hp2⟩:=two (by omega) (by omega)
     rw[q1,q2]
   rw[if_neg cl,if_neg cl]
   by_cases c3:lvO x.op=3
   · rw[if_pos c3,if_pos c3]
     have ho:14≤x.op∧x.op≤16∨x.op=20∨x.op=21∨x.op=23∨x.op=24:=by
      unfold lvO at c3
      repeat' split at c3
      all_goals omega
     have e1:1≤(prt x).toNat:=by
      unfold prt
      rw[if_neg (by omega),if_neg (by omega)]
      by_cases k:x.op=7∨x.op=9∨x.op=10∨21≤x.op∧x.op≤24
      · rw[if_pos k];decide
      · rw[if_neg k,if_neg (by omega),if_pos (by omega)];decide
     obtain⟨s1,p1,w1,q1,hp1⟩:=one e1 (by omega)
     rw[q1]
     by_cases c21:x.op=21
     · rw[if_pos c21,if_pos c21]
     rw[if_neg c21,if_neg c21]
     by_cases c24:x.op=24
     · rw[if_pos c24,if_pos c24]
     rw[if_neg c24,if_neg c24]
     by_cases c23:x.op=23
     · rw[if_pos c23,if_pos c23]
     rw[if_neg c23,if_neg c23]
     have e3:(prt x).toNat=2:=by
      unfold prt
      rw[if_neg (by omega),if_neg (by omega),if_neg (by omega),if_neg (by omega),if_pos (by omega)];rfl
     obtain⟨s2,p2,w2,q2,n2,hp2⟩:=two (by omega) (by omega)
     rw[q2]
   rw[if_neg c3,if_neg c3]
   by_cases c9:x.op=9∨x.op=10
   · have e3:(prt x).toNat=1:=by
      unfold prt
      rw[if_neg (by omega),if_neg (by omega),if_pos (by omega)];rfl
     obtain⟨s1,p1,w1,q1,hp1⟩:=one (by omega) (by omega)
     rcases c9 with c | c
     · rw[if_pos c,if_pos c,q1]
     · have c':x.op≠9:=by omega
       rw[if_neg c',if_neg c',if_pos c,if_pos c,q1]
   have c9':x.op≠9:=by omega
   have c10':x.op≠10:=by omega
   rw[if_neg c9',if_neg c9',if_neg c10',if_neg c10']
   by_cases c7:lvO x.op=7
   · rw[if_pos c7,if_pos c7]
     have ho:x.op=22∨25≤x.op∧x.op≤27:=by
      unfold lvO at c7
      repeat' split at c7
      all_goals omega
     by_cases c:x.op=22
     · have e3:(prt x).toNat=1:=by
        unfold prt
        rw[if_neg (by omega),if_neg (by omega),if_pos (by omega)];rfl
       obtain⟨s1,p1,w1,q1,hp1⟩:=one (by omega) (by omega)
       rw[if_pos c,if_pos c,q1]
     · have e3:(prt x).toNat=2:=by
        unfold prt
        rw[if_neg (by omega),if_neg (by omega),if_neg (by omega),if_neg (by omega),if_pos (by omega)];rfl
       obtain⟨s1,p1,w1,q1,hp1⟩:=one (by omega) (by omega)
       obtain⟨s2,p2,w2,q2,n2,hp2⟩:=two (by omega) (by omega)
       rw[if_neg c,if_neg c,q1,w2]
   rw[if_neg c7,if_neg c7]
   by_cases c5:x.op=5
   · rw[if_pos c5,if_pos c5]
     rcases hr with⟨h6,_⟩ | ⟨_,hp⟩
     · omega
     · have e3:prt x=x.n:=by unfold prt;rw[if_pos (by omega)]
       rw[e3]at hp
       rw[setW_both hg' (fun v r h z=>ih v r h g z hg') _ m r z hp]
   rw[if_neg c5,if_neg c5]
   by_cases c6:x.op=6
   · rw[if_pos c6,if_pos c6]
     rcases hr with⟨_,hp⟩ | ⟨h6,_⟩
     · rw[recW_both hg' (fun v r h z=>ih v r h g z hg') _ _ m r z hp]
     · exact absurd c6 h6
   rw[if_neg c6,if_neg c6]
def wrd (v:List Nd):List Tk:=wdE (v.length+1) v
theorem wd_wrd {f:Nat}{v:List Nd}(h:pastE f v=some []){g:Nat}(hg:f≤g)(z:List Nd):wdE g (v++z)=wrd v:=by
 unfold wrd
 have h1:=pastE_any h (g:=v.length+1) (by omega)
 have e1:=wd_both f v [] h (f+(v.length+1)) [] (by omega)
 have e2:=wd_both (v.length+1) v [] h1 (f+(v.length+1)) [] (by omega)
 rw[wd_both f v [] h g z hg,←e1,e2]
def bT:Tk:=⟨0,⟨#[]⟩,0⟩
def parseL (ts:List Tk):Except (Nat×Int) (List Nd):=
 if 300<ts.length then .error (0,4)
 else match ts.findIdx? (fun t=> !spB t)with
  | some i=>.error (i,1)
  | none=>
    match acc ps0 bT ts with
    | some x=>.error (ts.length-x.1,x.2)
    | none=>
      match prs ts with
      | .ok x=>if 200<x.1.length then .error (0,4)else .ok x.1
      | .error _=>.error (0,0)
theorem find_none {ts:List Tk}:ts.findIdx? (fun t=> !spB t)=none↔AllS ts:=by
 rw[List.findIdx?_eq_none_iff]
 constructor
 · intro h t ht;have:=h t ht;simpa using this
 · intro h t ht;have:=h t ht;simpa using this
theorem AllS.kinds {ts:List Tk}(h:AllS ts):AllK ts:=fun t ht=>spB_kOk (h t ht)
theorem parse_ok {ts:List Tk}{e:List Nd}(hl:ts.length≤300)(hs:AllS ts)(hd:Der 0 ts e)(he:e.length≤200):parseL ts= .ok e:=by
 unfold parseL
 rw[if_neg (by omega),find_none.2 hs,acc_der hs.kinds hd,prs_der hd]
 simp only
 rw[if_neg (by omega)]
theorem ok_parse {ts:List Tk}{e:List Nd}(h:parseL ts= .ok e):ts.length≤300∧AllS ts∧Der 0 ts e∧e.length≤200:=by
 unfold parseL at h
 split at h
 · cases h
 · rename_i hl
   cases hf:ts.findIdx? (fun t=> !spB t)with
   | some i=>rw[hf]at h;cases h
   | none=>
     rw[hf]at h
     have hs:=find_none.1 hf
     cases ha:acc ps0 bT ts with
     | some x=>rw[ha]at h;cases h
     | none=>
       rw[ha]at h
       obtain⟨e',hd⟩:=der_acc hs.kinds ha
       rw[prs_der hd]at h
       simp only at h
       split at h
       · cases h
       · injection h with h
         subst h
         exact⟨by omega,hs,hd,by omega⟩
theorem parse_full {ts:List Tk}{e:List Nd}(hl:ts.length≤300)(hs:AllS ts)(hd:Der 0 ts e)(he:200<e.length):parseL ts= .error (0,4):=by
 unfold parseL
 rw[if_neg (by omega),find_none.2 hs,acc_der hs.kinds hd,prs_der hd]
 simp only
 rw[if_pos he]
theorem parse_halt {ts:List Tk}{x:Nat×Int}(hl:ts.length≤300)(hs:AllS ts)(ha:acc ps0 bT ts=some x):parseL ts= .error (ts.length-x.1,x.2):=by
 unfold parseL
 rw[if_neg (by omega),find_none.2 hs,ha]
theorem error_parse {ts:List Tk}{i:Nat}{k:Int}(hl:ts.length≤300)(hs:AllS ts)(h:parseL ts= .error (i,k))(hk:k≠4):∃n,acc ps0 bT ts=some (n,k)∧i=ts.length-n:=by
 cases ha:acc ps0 bT ts with
 | some x=>
   rw[parse_halt hl hs ha]at h
   injection h with h
   injection h with h1 h2
   exact⟨x.1,by rw[←h2],h1.symm⟩
 | none=>
   obtain⟨e,hd⟩:=der_acc hs.kinds ha
   by_cases he:200<e.length
   · rw[parse_full hl hs hd he]at h
     injection h with h
     injection h with h1 h2
     exact absurd h2.symm hk
   · rw[parse_ok hl hs hd (by omega)]at h;cases h
theorem parse_print {v:List Nd}(hx:xfault v=0)(hN:∀x∈v,n64 x)(hl:(wrd v).length≤300):parseL (wrd v)= .ok v:=by
 obtain⟨h1,h2⟩:=xfault_zero hx
 exact parse_ok hl (wd_spB _ v [] h2 hN) (ex_der h2 hN) h1
theorem parse_round {ts:List Tk}{e:List Nd}(h:parseL ts= .ok e)(hl:ts.length+2≤300){t u:Tk}(ht:sgn t [40]=true)(hu:sgn u [41]=true)(h1:spB t=true)(h2:spB u=true):parseL (t::(ts++[u]))= .ok e:=by
 obtain⟨_,hs,hd,he⟩:=ok_parse h
 exact parse_ok (by simp;omega) (AllS.cons h1 (hs.append (AllS.cons h2 AllS.nil))) (der_to (Der.round t u ts e ht hu hd) (by omega) (by omega)) he
theorem parse_left {a b c:List Tk}{x y z:List Nd}(ha:parseL a= .ok x)(hb:parseL b= .ok y)(hc:parseL c= .ok z){t u s:Tk}(ht:sgn t [40]=true)(hu:sgn u [41]=true)(h1:spB t=true)(h2:spB u=true)(h3:spB s=true)
 {l:Nat} (hl:lftL l) (hs:lvlS l s=true) (hw:a.length+b.length+c.length+8≤300) (hn:x.length+y.length+z.length+2≤200):
 parseL ((t::(a++[u]))++s::((t::(b++[u]))++s::(t::(c++[u]))))= .ok (opN (opOf s)::opN (opOf s)::(x++(y++z))):=by
 obtain⟨_,sa,da,_⟩:=ok_parse ha
 obtain⟨_,sb,db,_⟩:=ok_parse hb
 obtain⟨_,sc,dc,_⟩:=ok_parse hc
 have hl8:l≤7:=by unfold lftL at hl;omega
 have ra:=der_to (Der.round t u a x ht hu da) (m:=l) (by omega) (by omega)
 have rb:=der_to (Der.round t u b y ht hu db) (m:=l+1) (by omega) (by omega)
 have rc:=der_to (Der.round t u c z ht hu dc) (m:=l+1) (by omega) (by omega)
 have d:=Der.bin l s _ _ _ _ hl hs (Der.bin l s _ _ _ _ hl hs ra rb) rc
 have br:∀w,AllS w→AllS (t::(w++[u])):=fun w hw=>AllS.cons h1 (hw.append (AllS.cons h2 AllS.nil))
 refine parse_ok (by simp;omega) ((br a sa).append (AllS.cons h3 ((br b sb).append (AllS.cons h3 (br c sc))))) ?_ (by simp;omega)
 have d0:=der_to d (m:=0) (by omega) (by omega)
 simpa using d0
theorem acc_more:∀(l:List Tk) (s:PS) (b:Tk) (n:Nat) (k:Int) (m:List Tk),acc s b l=some (n+1,k)→acc s b (l++m)=some (n+1+m.length,k)
 | [],s,b,n,k,m,h=>by
   rw[acc_nil]at h
   split at h
   · cases h
   · injection h with h;injection h with h;omega
 | t::r,s,b,n,k,m,h=>by
   rw[acc_cons]at h
   rw[List.cons_append,acc_cons]
   cases ho:s.next t b with
   | none=>
     rw[ho]at h
     rw[stp_none]at h ⊢
     injection h with h;injection h with h1 h2
     rw[←h2,List.length_append]
     have:r.length+m.length+1=n+1+m.length:=by omega
     rw[this]
   | some s'=>
     rw[ho]at h
     unfold stp at h ⊢
     simp only at h ⊢
     split at h
     · rename_i hg
       rw[if_pos hg]
       injection h with h;injection h with h1 h2
       rw[←h2,List.length_append]
       have:r.length+m.length+1=n+1+m.length:=by omega
       rw[this]
     · rename_i hg
       rw[if_neg hg]
       exact acc_more r s' t n k m h
theorem acc_ahead:∀(a:List Tk) (s:PS) (b t:Tk) (r:List Tk) (k:Int),acc s b (a++t::r)=some (r.length+1,k)→acc s b a=none∨acc s b a=some (0,1)
 | [],s,b,t,r,k,h=>by
   rw[acc_nil]
   split
   · exact Or.inl rfl
   · exact Or.inr rfl
 | u::a,s,b,t,r,k,h=>by
   rw[List.cons_append,acc_cons]at h
   rw[acc_cons]
   cases ho:s.next u b with
   | none=>
     rw[ho,stp_none]at h
     injection h with h;injection h with h1 h2
     simp at h1;omega
   | some s'=>
     rw[ho]at h
     unfold stp at h ⊢
     simp only at h ⊢
     split at h
     · injection h with h;injection h with h1 h2
       simp at h1;omega
     · rename_i hg
       rw[if_neg hg]
       exact acc_ahead a s' u t r k h
theorem acc_le:∀(l:List Tk) (s:PS) (b:Tk) (x:Nat×Int),acc s b l=some x→x.1≤l.length∧(x.1=0→x.2=1)∧(x.2=1∨x.2=5)
 | [],s,b,x,h=>by
   rw[acc_nil]at h
   split at h
   · cases h
   · injection h with h;subst h;exact⟨by simp,fun _=>rfl,Or.inl rfl⟩
 | t::r,s,b,x,h=>by
   rw[acc_cons]at h
   cases ho:s.next t b with
   | none=>
     rw[ho,stp_none]at h
     injection h with h;subst h;exact⟨by simp,fun h=>by simp at h,Or.inl rfl⟩
   | some s'=>
     rw[ho]at h
     unfold stp at h
     simp only at h
     split at h
     · injection h with h;subst h;exact⟨by simp,fun h=>by simp at h,Or.inr rfl⟩
     · obtain⟨h1,h2⟩:=acc_le r s' t x h
       exact⟨by simp;omega,h2⟩
theorem parse_soon {ts more:List Tk}{i:Nat}{k:Int}(hl:(ts++more).length≤300)(hs:AllS (ts++more))(h:parseL ts= .error (i,k))(hi:i<ts.length)(hk:k≠4):
 parseL (ts++more)= .error (i,k)∧((∃e,parseL (ts.take i)= .ok e)∨parseL (ts.take i)= .error (0,4)∨parseL (ts.take i)= .error (i,1)):=by
 have hs1:AllS ts:=fun t ht=>hs t (List.mem_append_left _ ht)
 rw[List.length_append]at hl
 obtain⟨n,ha,hn⟩:=error_parse (by omega) hs1 h hk
 obtain⟨hle,_,_⟩:=acc_le _ _ _ _ ha
 simp only at hle
 cases n with
 | zero=>omega
 | succ n=>
   constructor
   · have:=acc_more ts ps0 bT n k more ha
     rw[parse_halt (by rw[List.length_append];omega) hs this]
     have e:(ts++more).length-(n+1+more.length)=i:=by rw[List.length_append];omega
     rw[e]
   · have e1:ts=ts.take i++ts.drop i:=(List.take_append_drop i ts).symm
     have hd:ts.drop i≠[]:=by
      intro h0
      have:=congrArg List.length h0
      rw[List.length_drop]at this
      simp at this;omega
     cases hdr:ts.drop i with
     | nil=>exact absurd hdr hd
     | cons t r=>
       have hr:r.length=n:=by
        have:=congrArg List.length hdr
        rw[List.length_drop,List.length_cons]at this
        omega
       rw[e1,hdr,←hr]at ha
       have hs2:AllS (ts.take i):=fun t ht=>hs1 t (List.mem_of_mem_take ht)
       have hl2:(ts.take i).length≤300:=by rw[List.length_take];omega
       rcases acc_ahead _ _ _ t r k ha with h0 | h0
       · obtain⟨e,hd⟩:=der_acc hs2.kinds h0
         by_cases he:200<e.length
         · exact Or.inr (Or.inl (parse_full hl2 hs2 hd he))
         · exact Or.inl ⟨e,parse_ok hl2 hs2 hd (by omega)⟩
       · refine Or.inr (Or.inr ?_)
         rw[parse_halt hl2 hs2 h0]
         have:(ts.take i).length-0=i:=by rw[List.length_take];omega
         simp only[this]
def its (t:Tk):List UInt8:=if t.kind=1∨t.kind=5 then t.l else[]
def hdT (l:List Tk):Tk:=match l with | []=>bT | t::_=>t
def sayB (l:List Tk)(s:List UInt8):Bool:=decide (its (hdT l)=s)
def nextN (l:List Tk)(s:List UInt8):Bool:=match l with | []=>false | t::_=>nam t s
theorem spB_word {t:Tk}(h:spB t=true)(h3:t.kind≠3)(h4:t.kind≠4):word1 t.l= .ok (t.kind,t.l,t.l.length):=by
 unfold spB at h
 rw[if_neg h3,if_neg h4]at h
 cases hl:t.s.data.toList with
 | nil=>rw[hl]at h;cases h
 | cons c r=>
   rw[hl]at h
   simp only[Bool.and_eq_true]at h
   have h2:=h.2
   have el:t.l=c::r:=hl
   rw[el]
   unfold whole at h2
   cases hw:word1 (c::r)with
   | error n=>rw[hw]at h2;cases h2
   | ok x=>
     rw[hw]at h2
     simp only[Bool.and_eq_true,beq_iff_eq]at h2
     obtain⟨a,b,d⟩:=x
     simp only at h2
     rw[h2.1.1,h2.1.2,h2.2]
theorem spB_one {t:Tk}(h:spB t=true)(h1:t.kind=1):nfault t.l=0:=by
 have hw:=spB_word h (by rw[h1];decide) (by rw[h1];decide)
 rcases word1_inv hw with⟨_,_,h,_⟩ | ⟨k,_⟩ | ⟨k,_⟩ | ⟨k,_⟩ | ⟨k,_⟩
 · exact h
 all_goals rw[h1]at k;cases k
theorem spB_two {t:Tk}(h:spB t=true)(h1:t.kind=2):t.l.all digb=true∧t.l.length≤19∧t.l≠[]:=by
 have hw:=spB_word h (by rw[h1];decide) (by rw[h1];decide)
 rcases word1_inv hw with⟨k,_⟩ | ⟨_,e,h2,h3,h4⟩ | ⟨k,_⟩ | ⟨k,_⟩ | ⟨k,_⟩
 · rw[h1]at k;cases k
 · have ha:t.l.takeWhile digb=t.l:=by
    have:=List.takeWhile_prefix (p:=digb) (l:=t.l)
    exact this.eq_of_length h3.symm
   refine⟨?_,h2,?_⟩
   · rw[←ha];exact List.all_takeWhile
   · rw[←ha];exact h4
 all_goals rw[h1]at k;cases k
theorem spB_five {t:Tk}(h:spB t=true)(h1:t.kind=5):two t.l=true∨(∃c,t.l=[c]∧shorts.contains c=true):=by
 have hw:=spB_word h (by rw[h1];decide) (by rw[h1];decide)
 rcases word1_inv hw with⟨k,_⟩ | ⟨k,_⟩ | ⟨k,_⟩ | ⟨k,_⟩ | ⟨_,⟨h2,_⟩ | ⟨h2,e,h3,h4⟩⟩
 · rw[h1]at k;cases k
 · rw[h1]at k;cases k
 · rw[h1]at k;cases k
 · rw[h1]at k;cases k
 · exact Or.inl h2
 · right
   match hl:t.l,h3,h2 with
   | [],h3,_=>simp at h3
   | [c],_,h2=>exact⟨c,rfl,by simpa using h2⟩
   | _::_::_,h3,_=>simp at h3
theorem spB_size {t:Tk}(h:spB t=true):t.l.length≤60:=by
 by_cases h3:t.kind=3
 · unfold spB at h
   rw[if_pos h3]at h
   unfold textOk at h
   simp at h
   show t.s.data.toList.length≤60
   simp;omega
 · by_cases h4:t.kind=4
   · unfold spB at h
     rw[if_neg h3,if_pos h4]at h
     have hn:nfault t.s.data.toList=0:=by simpa using h
     have:=(name_low (l:=t.l) hn).1
     omega
   · have hw:=spB_word h h3 h4
     rcases word1_inv hw with⟨_,_,h,_⟩ | ⟨_,_,h,_⟩ | ⟨k,_⟩ | ⟨k,_⟩ | ⟨_,⟨h2,_⟩ | ⟨h2,e,h3,h4⟩⟩
     · have:=(name_low h).1;omega
     · omega
     · exact absurd k h3
     · exact absurd k h4
     · unfold two at h2
       simp at h2
       rcases h2 with(((h2 | h2) | h2) | h2) | h2<;>rw[h2]<;>decide
     · omega
theorem name_head {l:List UInt8}(h:nfault l=0):∃c r,l=c::r∧letb c=true:=by
 unfold nfault at h
 split at h
 · rename_i hn
   unfold nm at hn
   rw[Bool.and_eq_true]at hn
   cases l with
   | nil=>simp at hn
   | cons c r=>
     refine⟨c,r,rfl,?_⟩
     have:=hn.1
     simp only[pre,Bool.and_eq_true]at this
     exact this.1
 · cases h
theorem sign_head {t:Tk}(h:spB t=true)(h1:t.kind=5):∃c r,t.l=c::r∧letb c=false:=by
 rcases spB_five h h1 with h2 | ⟨c,e,hc⟩
 · unfold two at h2
   simp at h2
   rcases h2 with(((h2 | h2) | h2) | h2) | h2<;>rw[h2]<;>exact⟨_,_,rfl,by decide⟩
 · refine⟨c,[],e,?_⟩
   unfold shorts at hc
   simp at hc
   rcases hc with rfl | rfl | rfl | rfl | rfl | rfl | rfl | rfl | rfl | rfl | rfl | rfl | rfl | rfl<;>decide
theorem sayB_nam {l:List Tk}{c:UInt8}{w:List UInt8}(hl:AllS l)(hc:letb c=true):sayB l (c::w)=nextN l (c::w):=by
 unfold sayB nextN
 cases l with
 | nil=>rfl
 | cons t r=>
   have ht:=hl t (List.mem_cons_self ..)
   show decide (its t=c::w)=nam t (c::w)
   unfold its nam
   by_cases h1:t.kind=1
   · rw[if_pos (Or.inl h1),h1]
     rw[Bool.eq_iff_iff];simp
   · by_cases h5:t.kind=5
     · obtain⟨d,r',e,hd⟩:=sign_head ht h5
       rw[if_pos (Or.inr h5),e,h5]
       rw[Bool.eq_iff_iff];simp
       intro e1;rw[e1,hc]at hd;cases hd
     · rw[if_neg (by rintro(h | h)<;>contradiction)]
       rw[Bool.eq_iff_iff];simp[h1]
theorem sayB_sgn {l:List Tk}{c:UInt8}{w:List UInt8}(hl:AllS l)(hc:letb c=false):sayB l (c::w)=nextS l (c::w):=by
 unfold sayB nextS
 cases l with
 | nil=>rfl
 | cons t r=>
   have ht:=hl t (List.mem_cons_self ..)
   show decide (its t=c::w)=sgn t (c::w)
   unfold its sgn
   by_cases h1:t.kind=1
   · obtain⟨d,r',e,hd⟩:=name_head (spB_one ht h1)
     rw[if_pos (Or.inl h1),e,h1]
     rw[Bool.eq_iff_iff];simp
     intro e1;rw[e1,hc]at hd;cases hd
   · by_cases h5:t.kind=5
     · rw[if_pos (Or.inr h5),h5]
       rw[Bool.eq_iff_iff];simp
     · rw[if_neg (by rintro(h | h)<;>contradiction)]
       rw[Bool.eq_iff_iff];simp[h5]
theorem der_len {l:Nat}{a:List Tk}{x:List Nd}(h:Der l a x):(l≤8→x.length≤a.length)∧(9≤l→x.length≤a.length+1):=by
 induction h with
 | up l a x hl hd ih=>
   refine⟨fun _=>ih.1 (by omega),fun h=>by omega⟩
 | bin l t a b x y hl _ _ _ iha ihb=>
   have hl':l≤5:=by unfold lftL at hl;omega
   refine⟨fun _=>?_,fun h=>by omega⟩
   have:=iha.1 (by omega);have:=ihb.1 (by omega)
   simp;omega
 | _=>simp_all<;>omega
theorem der_some {l:Nat}{a:List Tk}{x:List Nd}(h:Der l a x)(hl:l≤8):x≠[]:=by
 have:x≠[]:=by
  clear hl
  induction h<;>simp_all
 exact this
theorem pE_len {n lvl:Nat}{l r:List Tk}{e:List Nd}(hk:AllK l)(hl:lvl≤8)(h:pE n lvl l=some (.ok (e,r))):e.length+r.length≤l.length∧e≠[]∧∃a,l=a++r:=by
 obtain⟨a,h1,h2⟩:=(snd_all n).E lvl l hl hk e r h
 have:=(der_len h2).1 hl
 refine⟨by rw[h1,List.length_append];omega,?_,a,h1⟩
 exact der_some h2 hl
abbrev PRes:=Except (Nat×Int) (List Nd×List Tk)
theorem andR_some {X:Option PRes}{f:List Nd→List Tk→Option PRes}{res:PRes}(h:andR X f=some res):(∃e,X=some (.error e)∧res= .error e)∨∃a r,X=some (.ok (a,r))∧f a r=some res:=by
 unfold andR at h
 match X,h with
 | none,h=>cases h
 | some (.error e),h=>injection h with h;exact Or.inl ⟨e,rfl,h.symm⟩
 | some (.ok (a,r)),h=>exact Or.inr ⟨a,r,rfl,h⟩
theorem must_some {p:Tk→Bool}{l:List Tk}{f:Tk→List Tk→Option PRes}{res:PRes}(h:must p l f=some res):
 ((∀t r,l=t::r→p t=false)∧res= .error (l.length,1))∨∃t r,l=t::r∧p t=true∧f t r=some res:=by
 unfold must at h
 cases l with
 | nil=>injection h with h;exact Or.inl ⟨fun _ _ h=>(by cases h),h.symm⟩
 | cons t r=>
   simp only at h
   by_cases hp:p t=true
   · rw[if_pos hp]at h;exact Or.inr ⟨t,r,rfl,hp,h⟩
   · rw[if_neg hp]at h
     injection h with h
     refine Or.inl ⟨fun u r' e=>?_,h.symm⟩
     injection e with e1 _
     subst e1;simpa using hp
theorem pE_zero_if {n:Nat}{t:Tk}{r:List Tk}(c:(nam t wIf && !nextS r [58,58])=true):pE (n+1) 0 (t::r)=andR (pE n 0 r) fun a r1=>must (fun u=>nam u wThen) r1 fun _ r2=>andR (pE n 0 r2) fun b r3=>must (fun u=>nam u wElse) r3 fun _ r4=>
 andR (pE n 0 r4) fun c r5=>some (.ok (opN 13::(a++(b++c)),r5)):=by
 rw[pE.eq_def];simp only[if_true,c]
theorem pE_zero_up {n:Nat}{l:List Tk}(c:(nextN l wIf && !nextS l.tail [58,58])=false):pE (n+1) 0 l=pE n 1 l:=by
 cases l with
 | nil=>rw[pE.eq_def];first | done | rfl
 | cons t r=>
   have c':¬(nam t wIf && !nextS r [58,58])=true:=by
    have:(nam t wIf && !nextS r [58,58])=false:=c
    rw[this];decide
   rw[pE.eq_def];simp only[if_true,if_neg c']
theorem pE_left {n lvl:Nat}{l:List Tk}(hl:lftL lvl):pE (n+1) lvl l=andR (pE n (lvl+1) l) fun a r=>pL n lvl a r:=by
 rw[pE.eq_def]
 rcases hl with hl | hl | hl | hl<;>subst hl<;>rfl
theorem pL_go {n lvl:Nat}{a:List Nd}{t:Tk}{r:List Tk}{res:PRes}(hl:lvlS lvl t=true)(h:pL n lvl a (t::r)=some res):
 (∃e,pE n (lvl+1) r=some (.error e)∧res= .error e)∨∃b r1,pE n (lvl+1) r=some (.ok (b,r1))∧pL n lvl (opN (opOf t)::(a++b)) r1=some res:=by
 cases n with
 | zero=>rw[pL]at h;cases h
 | succ n=>
   rw[pL.eq_def]at h
   simp only[hl,if_true]at h
   rcases andR_some h with⟨e,h1,h2⟩ | ⟨b,r1,h1,h2⟩
   · exact Or.inl ⟨e,(mono_all n (n+1) (by omega)).E _ _ _ h1,h2⟩
   · exact Or.inr ⟨b,r1,(mono_all n (n+1) (by omega)).E _ _ _ h1,(mono_all n (n+1) (by omega)).L _ _ _ _ h2⟩
theorem pL_stop {n lvl:Nat}{a:List Nd}{l:List Tk}{res:PRes}(hl:∀t r,l=t::r→lvlS lvl t=false)(h:pL n lvl a l=some res):res= .ok (a,l):=by
 cases n with
 | zero=>rw[pL]at h;cases h
 | succ n=>
   rw[pL.eq_def]at h
   cases l with
   | nil=>injection h with h;exact h.symm
   | cons t r=>
     simp only[hl t r rfl,Bool.false_eq_true,if_false]at h
     injection h with h;exact h.symm
theorem pE_three {n:Nat}{l:List Tk}:pE (n+1) 3 l=andR (pE n 4 l) fun a r=>
        match r with
        | []=>some (.ok (a,[]))
        | t::r1=>
          if relS t=true then andR (pE n 4 r1) fun b r2=>some (.ok (opN (opOf t)::(a++b),r2))
          else if hasS t=true then must (fun u=>u.kind == 1) r1 fun u r2=>some (.ok (mkN (if nam t wHas=true then 21 else 24) 0 u.l []::a,r2))
          else if nam t wLike=true then must (fun u=>u.kind == 3) r1 fun u r2=>some (.ok (mkN 23 0 u.l []::a,r2))
          else some (.ok (a,t::r1)):=by rw[pE.eq_def];first | done | rfl
theorem pE_not {n:Nat}{t:Tk}{r:List Tk}(c1:sgn t [33]=true):pE (n+1) 6 (t::r)=andR (pE n 6 r) fun a r1=>some (.ok (opN 9::a,r1)):=by
 rw[pE.eq_def];simp[c1]
theorem pE_neg {n:Nat}{t:Tk}{r:List Tk}(c1:sgn t [33]=false)(c2:(sgn t [45] && !nextNum r)=true):pE (n+1) 6 (t::r)=andR (pE n 6 r) fun a r1=>some (.ok (opN 10::a,r1)):=by
 rw[pE.eq_def];simp[c1,c2]
theorem pE_six_up {n:Nat}{l:List Tk}(c1:nextS l [33]=false)(c2:(nextS l [45] && !nextNum l.tail)=false):pE (n+1) 6 l=pE n 7 l:=by
 cases l with
 | nil=>rw[pE.eq_def];first | done | rfl
 | cons t r=>
   have c1':sgn t [33]=false:=c1
   have c2':(sgn t [45] && !nextNum r)=false:=c2
   rw[pE.eq_def];simp only[c1',c2',Bool.false_eq_true,if_false];rfl
theorem pE_seven {n:Nat}{l:List Tk}:pE (n+1) 7 l=andR (pE n 8 l) fun a r=>pP n a r:=by rw[pE.eq_def];first | done | rfl
theorem pP_stop {n:Nat}{a:List Nd}{l:List Tk}{res:PRes}(hl:nextS l [46]=false)(h:pP n a l=some res):res= .ok (a,l):=by
 cases n with
 | zero=>rw[pP]at h;cases h
 | succ n=>
   rw[pP.eq_def]at h
   cases l with
   | nil=>injection h with h;exact h.symm
   | cons t r=>
     have hl':sgn t [46]=false:=hl
     simp only[hl',Bool.false_eq_true,if_false]at h
     injection h with h;exact h.symm
theorem pP_bad {n:Nat}{a:List Nd}{t:Tk}{r:List Tk}{res:PRes}(ht:sgn t [46]=true)(hr:∀u r1,r=u::r1→(u.kind == 1)=false)(h:pP n a (t::r)=some res):res= .error (r.length,1):=by
 cases n with
 | zero=>rw[pP]at h;cases h
 | succ n=>
   rw[pP.eq_def]at h
   simp only[ht,if_true]at h
   rcases must_some h with⟨_,h1⟩ | ⟨u,r1,e,hu,_⟩
   · exact h1
   · rw[hr u r1 e]at hu;cases hu
theorem pP_get {n:Nat}{a:List Nd}{t u:Tk}{r:List Tk}{res:PRes}(ht:sgn t [46]=true)(hu:(u.kind == 1)=true)(hc:(isCall u && nextS r [40])=false)(h:pP n a (t::u::r)=some res):
 pP n (mkN 22 0 u.l []::a) r=some res:=by
 cases n with
 | zero=>rw[pP]at h;cases h
 | succ n=>
   rw[pP.eq_def]at h
   simp only[ht,if_true]at h
   rcases must_some h with⟨h1,_⟩ | ⟨u',r1,e,_,h1⟩
   · rw[h1 u r rfl]at hu;cases hu
   · injection e with e1 e2
     subst e1 e2
     rw[hc,if_neg (by decide)]at h1
     exact(mono_all n (n+1) (by omega)).P _ _ _ h1
theorem pP_call {n:Nat}{a:List Nd}{t u v:Tk}{r:List Tk}{res:PRes}(ht:sgn t [46]=true)(hu:(u.kind == 1)=true)(hc:isCall u=true)(hv:sgn v [40]=true)(h:pP n a (t::u::v::r)=some res):
 (∃e,pE n 0 r=some (.error e)∧res= .error e)∨∃b r2,pE n 0 r=some (.ok (b,r2))∧
  (((∀x r',r2=x::r'→sgn x [41]=false)∧res= .error (r2.length,1))∨∃x r3,r2=x::r3∧sgn x [41]=true∧pP n (opN (callOp u)::(a++b)) r3=some res):=by
 cases n with
 | zero=>rw[pP]at h;cases h
 | succ n=>
   rw[pP.eq_def]at h
   simp only[ht,if_true]at h
   rcases must_some h with⟨h1,_⟩ | ⟨u',r1,e,_,h1⟩
   · rw[h1 u (v::r) rfl]at hu;cases hu
   · injection e with e1 e2
     subst e1 e2
     rw[hc,show nextS (v::r) [40]=true from hv,if_pos (by decide)]at h1
     rcases andR_some h1 with⟨e,h2,h3⟩ | ⟨b,r2,h2,h3⟩
     · exact Or.inl ⟨e,(mono_all n (n+1) (by omega)).E _ _ _ h2,h3⟩
     · refine Or.inr ⟨b,r2,(mono_all n (n+1) (by omega)).E _ _ _ h2,?_⟩
       rcases must_some h3 with⟨h4,h5⟩ | ⟨x,r3,h4,h5,h6⟩
       · exact Or.inl ⟨h4,h5⟩
       · exact Or.inr ⟨x,r3,h4,h5,(mono_all n (n+1) (by omega)).P _ _ _ h6⟩
theorem pS_go {n k:Nat}{acc:List Nd}{l:List Tk}{res:PRes}(h:pS n k acc l=some res):
 (∃e,pE n 0 l=some (.error e)∧res= .error e)∨∃b r,pE n 0 l=some (.ok (b,r))∧
  ((nextS r [93]=true∧res= .ok (mkN 5 ((k:Int)+1) [] []::(acc++b),r.tail))∨(nextS r [93]=false∧nextS r [44]=true∧pS n (k+1) (acc++b) r.tail=some res)∨(nextS r [93]=false∧nextS r [44]=false∧res= .error (r.length,1))):=by
 cases n with
 | zero=>rw[pS]at h;cases h
 | succ n=>
   rw[pS.eq_def]at h
   simp only at h
   rcases andR_some h with⟨e,h2,h3⟩ | ⟨b,r,h2,h3⟩
   · exact Or.inl ⟨e,(mono_all n (n+1) (by omega)).E _ _ _ h2,h3⟩
   · refine Or.inr ⟨b,r,(mono_all n (n+1) (by omega)).E _ _ _ h2,?_⟩
     cases r with
     | nil=>injection h3 with h3;exact Or.inr (Or.inr ⟨rfl,rfl,h3.symm⟩)
     | cons t r1=>
       simp only at h3
       by_cases c1:sgn t [93]=true
       · rw[if_pos c1]at h3;injection h3 with h3;exact Or.inl ⟨c1,h3.symm⟩
       · rw[if_neg c1]at h3
         have c1':nextS (t::r1) [93]=false:=by simpa[nextS]using c1
         by_cases c2:sgn t [44]=true
         · rw[if_pos c2]at h3;exact Or.inr (Or.inl ⟨c1',c2,(mono_all n (n+1) (by omega)).S _ _ _ _ h3⟩)
         · rw[if_neg c2]at h3;injection h3 with h3
           exact Or.inr (Or.inr ⟨c1',by simpa[nextS]using c2,h3.symm⟩)
def keyB (nm:List UInt8)(l:List Tk):Bool:=match l with | []=>false | u::_=>u.kind == 1 && decide (Lib.compareBytes nm u.l<0)
theorem pK_bad {n k:Nat}{nm:List UInt8}{acc:List Nd}{l:List Tk}{res:PRes}(hk:keyB nm l=false)(h:pK n k nm acc l=some res):res= .error (l.length,1):=by
 cases n with
 | zero=>rw[pK]at h;cases h
 | succ n=>
   rw[pK.eq_def]at h
   simp only at h
   rcases must_some h with⟨_,h1⟩ | ⟨u,r,e,hu,_⟩
   · exact h1
   · subst e
     have:(u.kind == 1 && decide (Lib.compareBytes nm u.l<0))=false:=hk
     rw[this]at hu;cases hu
theorem pK_colon {n k:Nat}{nm:List UInt8}{acc:List Nd}{u:Tk}{l:List Tk}{res:PRes}(hk:keyB nm (u::l)=true)(hc:nextS l [58]=false)(h:pK n k nm acc (u::l)=some res):res= .error (l.length,1):=by
 cases n with
 | zero=>rw[pK]at h;cases h
 | succ n=>
   rw[pK.eq_def]at h
   simp only at h
   rcases must_some h with⟨h1,_⟩ | ⟨u',r,e,hu,h1⟩
   · have:(u.kind == 1 && decide (Lib.compareBytes nm u.l<0))=true:=hk
     rw[h1 u l rfl]at this;cases this
   · injection e with e1 e2
     subst e1 e2
     rcases must_some h1 with⟨_,h2⟩ | ⟨v,r,e,hv,_⟩
     · exact h2
     · subst e
       have:sgn v [58]=false:=hc
       rw[this]at hv;cases hv
theorem pK_go {n k:Nat}{nm:List UInt8}{acc:List Nd}{u v:Tk}{l:List Tk}{res:PRes}(hk:keyB nm (u::v::l)=true)(hc:sgn v [58]=true)(h:pK n k nm acc (u::v::l)=some res):
 (∃e,pE n 0 l=some (.error e)∧res= .error e)∨∃b r,pE n 0 l=some (.ok (b,r))∧
  ((nextS r [125]=true∧res= .ok (mkN 6 ((k:Int)+1) [] []::(acc++(mkN 7 0 u.l []::b)),r.tail))∨
   (nextS r [125]=false∧u.l≠wLast∧nextS r [44]=true∧pK n (k+1) u.l (acc++(mkN 7 0 u.l []::b)) r.tail=some res)∨
   (nextS r [125]=false∧(u.l=wLast∨nextS r [44]=false)∧res= .error (r.length,1))):=by
 cases n with
 | zero=>rw[pK]at h;cases h
 | succ n=>
   rw[pK.eq_def]at h
   simp only at h
   rcases must_some h with⟨h1,_⟩ | ⟨u',r,e,hu,h1⟩
   · have:(u.kind == 1 && decide (Lib.compareBytes nm u.l<0))=true:=hk
     rw[h1 u _ rfl]at this;cases this
   · injection e with e1 e2
     subst e1 e2
     rcases must_some h1 with⟨h2,_⟩ | ⟨v',r,e,hv,h2⟩
     · rw[h2 v l rfl]at hc;cases hc
     · injection e with e1 e2
       subst e1 e2
       rcases andR_some h2 with⟨e,h3,h4⟩ | ⟨b,r,h3,h4⟩
       · exact Or.inl ⟨e,(mono_all n (n+1) (by omega)).E _ _ _ h3,h4⟩
       · refine Or.inr ⟨b,r,(mono_all n (n+1) (by omega)).E _ _ _ h3,?_⟩
         cases r with
         | nil=>injection h4 with h4;exact Or.inr (Or.inr ⟨rfl,Or.inr rfl,h4.symm⟩)
         | cons t r1=>
           simp only at h4
           by_cases c1:sgn t [125]=true
           · rw[if_pos c1]at h4;injection h4 with h4;exact Or.inl ⟨c1,h4.symm⟩
           · rw[if_neg c1]at h4
             have c1':nextS (t::r1) [125]=false:=by simpa[nextS]using c1
             by_cases c2:comR u.l t=true
             · rw[if_pos c2]at h4
               have c3:=c2
               unfold comR at c3
               rw[Bool.and_eq_true]at c3
               exact Or.inr (Or.inl ⟨c1',by simpa using c3.2,c3.1,(mono_all n (n+1) (by omega)).K _ _ _ _ _ h4⟩)
             · rw[if_neg c2]at h4;injection h4 with h4
               refine Or.inr (Or.inr ⟨c1',?_,h4.symm⟩)
               by_cases c3:u.l=wLast
               · exact Or.inl c3
               · right
                 have:comR u.l t=false:=by simpa using c2
                 unfold comR at this
                 rw[show(u.l == wLast)=false from by simpa using c3]at this
                 simpa[nextS]using this
set_option maxRecDepth 100000
def wL:List Tk:=[mkT 2 [49] 0,mkT 5 [45] 2,mkT 2 [50] 4,mkT 5 [45] 6,mkT 2 [51] 8]
def wB:List Tk:=[mkT 5 [40] 0,mkT 2 [53] 1,mkT 5 [41] 2]
def wS:List Tk:=[mkT 2 [53] 0,mkT 5 [41] 2]
theorem read_wL:readL [49,32,45,32,50,32,45,32,51]= .ok wL:=by
 unfold readL
 rw[if_neg (by decide),wds_word (by decide) (x:=(2,[49],1)) rfl (by decide)]
 simp only[List.nil_append,List.drop_zero,Nat.sub_self,Nat.zero_add]
 rw[wds_blank (by decide),wds_word (by decide) (x:=(5,[45],1)) rfl (by simp)]
 simp only[Nat.sub_self,List.drop_zero]
 rw[wds_blank (by decide),wds_word (by decide) (x:=(2,[50],1)) rfl (by simp)]
 simp only[Nat.sub_self,List.drop_zero]
 rw[wds_blank (by decide),wds_word (by decide) (x:=(5,[45],1)) rfl (by simp)]
 simp only[Nat.sub_self,List.drop_zero]
 rw[wds_blank (by decide),wds_word (by decide) (x:=(2,[51],1)) rfl (by simp)]
 simp only[Nat.sub_self,List.drop_zero]
 rw[wds_nil]
 rfl
theorem read_wB:readL [40,53,41]= .ok wB:=by
 unfold readL
 rw[if_neg (by decide),wds_word (by decide) (x:=(5,[40],1)) rfl (by decide)]
 simp only[List.nil_append,List.drop_zero,Nat.sub_self,Nat.zero_add]
 rw[wds_word (by decide) (x:=(2,[53],1)) rfl (by simp)]
 simp only[Nat.sub_self,List.drop_zero]
 rw[wds_word (by decide) (x:=(5,[41],1)) rfl (by simp)]
 simp only[Nat.sub_self,List.drop_zero]
 rw[wds_nil]
 rfl
theorem read_wS:readL [53,32,41]= .ok wS:=by
 unfold readL
 rw[if_neg (by decide),wds_word (by decide) (x:=(2,[53],1)) rfl (by decide)]
 simp only[List.nil_append,List.drop_zero,Nat.sub_self,Nat.zero_add]
 rw[wds_blank (by decide),wds_word (by decide) (x:=(5,[41],1)) rfl (by simp)]
 simp only[Nat.sub_self,List.drop_zero]
 rw[wds_nil]
 rfl
theorem parse_wL:parseL (wL.map at0)= .ok [opN 18,opN 18,⟨2,1,⟨#[]⟩,⟨#[]⟩⟩,⟨2,2,⟨#[]⟩,⟨#[]⟩⟩,⟨2,3,⟨#[]⟩,⟨#[]⟩⟩]:=by kernel_rfl
theorem parse_wB:parseL (wB.map at0)= .ok [⟨2,5,⟨#[]⟩,⟨#[]⟩⟩]:=by kernel_rfl
theorem parse_wS:parseL (wS.map at0)= .error (1,1):=by kernel_rfl
end Go.Proofs.YtgbljlabifpmgaaGreatDoor
