/- The document's Names: by a walk of its own text. -/
import Derived.Test.YtnpneglipogehaaGreatDoorNamesL
import Derived.Test.YtnpneglipogehaaGreatDoorTexts
import Derived.Test.YtnpneglipogehaaGreatDoorTextRef
namespace Go.Proofs.YtnpneglipogehaaGreatDoor
open Go.RowKit
set_option linter.unusedVariables false

def lastOf : Value → ByteArray
  | .string b => b
  | _ => ⟨#[]⟩
theorem vars_at_var {v : List Nd} {k : Nat} (h : k < v.length) (h8 : v[k].op = 8) : vars (v.take (k + 1)) = vars (v.take k) ++ [v[k].s] := by
  rw [List.take_succ_eq_append_getElem h, vars_append, vars_cons_var h8]; rfl
theorem vars_at_not {v : List Nd} {k : Nat} (h : k < v.length) (h8 : v[k].op ≠ 8) : vars (v.take (k + 1)) = vars (v.take k) := by
  rw [List.take_succ_eq_append_getElem h, vars_append, vars_cons_not h8]; simp [vars]
theorem vars_part {v : List Nd} {k : Nat} {z : ByteArray} (h : z ∈ vars (v.take k)) : z ∈ vars v := by
  obtain ⟨x, hx, h1⟩ := mem_vars.1 h
  exact mem_vars.2 ⟨x, List.mem_of_mem_take hx, h1⟩
/-- The names, in a slice. -/
def NamesRet (w' : World) (l : List ByteArray) (e : Ending) : Prop := ∃ q c, e = .returned (.slice q l.length c) ∧ TL w' q l ∧ l.length ≤ c ∧ c ≤ maxLen
theorem empty_text {s : ByteArray} : (s.toList == []) = true ↔ s = ⟨#[]⟩ := by
  rw [beq_iff_eq, ByteArray.toList_eq]
  exact ⟨fun h => bytes_inj h, fun h => by rw [h]⟩

set_option maxRecDepth 100000 in
set_option maxHeartbeats 2000000 in
theorem refNames_any (v : List Nd) (p : Option Addr) (c : Nat) (w : World) (hv : NL w p v) (hl : v.length ≤ 200) (hne : ∀ z ∈ vars v, z.data.toList ≠ []) (hsz : ∀ z ∈ vars v, z.size ≤ maxLen) :
    Calls Tryz.prog 9 #[.slice p v.length c] w fun e w' => NamesRet w' (nms v) e ∧ Below w.heap.size w w' := by
  have HNE : Hid (∀ z ∈ vars v, z.data.toList ≠ []) := hne
  have HSZ : Hid (∀ z ∈ vars v, z.size ≤ maxLen) := hsz
  have hvl := vars_length v
  clear hne hsz
  go_enter Tryz.func9, Tryz.ntmps9
  go_wp2
  go_loopw [3, 4] (fun ov sl wr => ∃ (out : List ByteArray) (last : ByteArray), sl = .string last ∧ OT wr w.heap.size ov out ∧ Hid (Sofar (vars v) last out) ∧ last.size ≤ 9223372036854775807 ∧ Below w.heap.size w wr) (fun _ sl _ => aft (vars v) (lastOf sl))
  case atStart => exact ⟨[], ⟨#[]⟩, rfl, Row1.nil _ _ _, Sofar.start HNE.out, Nat.zero_le _, Below.refl _ _⟩
  case round =>
    obtain ⟨out, last, rfl, hot, HSF, hls, hb⟩ := hrel
    rename World => w0
    have HOT : Hid (OT w0 w.heap.size u3 out) := hot
    have hof : out.length ≤ 200 := by have := HSF.out.few; omega
    have hvr := hv.up hb
    have hbs := hb.size
    clear hot
    go_wp2
    go_loopw [5, 6] (fun sn i wz => ∃ (k : Nat) (nx : ByteArray), k ≤ v.length ∧ i = .int .i64 k ∧ sn = .string nx ∧ Hid (NX last (vars (v.take k)) nx) ∧ nx.size ≤ 9223372036854775807 ∧ ∃ n, wz = w0.drewN n) (fun _ i _ => v.length - (intOf i).toNat)
    case atStart => exact ⟨0, ⟨#[]⟩, Nat.zero_le _, rfl, rfl, NX.nil last, Nat.zero_le _, 0, rfl⟩
    case round =>
      obtain ⟨k, nx, hk, rfl, rfl, HNX, hnx, n, rfl⟩ := hrel
      by_cases hlt : k < v.length
      · have i1 : (k : Int) < (v.length : Int) := by omega
        obtain ⟨b, off, hpe, hbw, x0, x1, x2, x3, xw⟩ := hvr.at hlt
        subst hpe
        cases h8 : (v[k].op == 8)
        · have HV : Hid (_ = _) := vars_at_not hlt (by simpa using h8)
          generalize v[k] = x at *
          go_wp2
          go_roundw
          case rel => exact ⟨k + 1, nx, by omega, by go_num, rfl, by rw [HV.out]; exact HNX, hnx, _, rfl⟩
          case measure => simp [intOf]; omega
        · have HV : Hid (_ = _) := vars_at_var hlt (by simpa using h8)
          generalize v[k] = x at *
          have hxs : x.s.size ≤ 9223372036854775807 := by have := xw.1; unfold maxLen at this; omega
          have HC := fun w => textC_any x.s last w xw.1 (by unfold maxLen; omega)
          by_cases h0 : 0 < cmpB x.s last
          · by_cases hnn : nx = ⟨#[]⟩
            · subst hnn
              have HN2 : Hid (NX last (vars (v.take k) ++ [x.s]) x.s) := HNX.out.first (fun z hz => HNE.out z (vars_part hz)) h0
              generalize cmpB x.s last = cp at *
              go_wp2_with fail
              refine (HC _).mono ?_
              rintro e0 wq ⟨rfl, n2, rfl⟩
              go_wp2
              go_roundw
              case rel => exact ⟨k + 1, x.s, by omega, by go_num, rfl, by rw [HV.out]; exact HN2, hxs, _, rfl⟩
              case measure => simp [intOf]; omega
            · have hnl : nx.data.toList ≠ [] := fun h => hnn (bytes_inj h)
              have hnb : (nx.toList == []) = false := by rw [beq_eq_false_iff_ne, ByteArray.toList_eq]; exact hnl
              have HD := fun w => textC_any x.s nx w xw.1 (by unfold maxLen; omega)
              by_cases h1 : cmpB x.s nx < 0
              · have HN2 : Hid (NX last (vars (v.take k) ++ [x.s]) x.s) := HNX.out.less hnl h0 h1
                clear hnn hnl
                generalize cmpB x.s last = cp at *
                generalize cmpB x.s nx = cq at *
                go_wp2_with fail
                refine (HC _).mono ?_
                rintro e0 wq ⟨rfl, n2, rfl⟩
                go_wp2_with fail
                refine (HD _).mono ?_
                rintro e0 wq ⟨rfl, n3, rfl⟩
                go_wp2
                go_roundw
                case rel => exact ⟨k + 1, x.s, by omega, by go_num, rfl, by rw [HV.out]; exact HN2, hxs, _, rfl⟩
                case measure => simp [intOf]; omega
              · have HN2 : Hid (NX last (vars (v.take k) ++ [x.s]) nx) := HNX.out.more hnl h1
                clear hnn hnl
                generalize cmpB x.s last = cp at *
                generalize cmpB x.s nx = cq at *
                go_wp2_with fail
                refine (HC _).mono ?_
                rintro e0 wq ⟨rfl, n2, rfl⟩
                go_wp2_with fail
                refine (HD _).mono ?_
                rintro e0 wq ⟨rfl, n3, rfl⟩
                go_wp2
                go_roundw
                case rel => exact ⟨k + 1, nx, by omega, by go_num, rfl, by rw [HV.out]; exact HN2, hnx, _, rfl⟩
                case measure => simp [intOf]; omega
          · have HN2 : Hid (NX last (vars (v.take k) ++ [x.s]) nx) := HNX.out.skip h0
            generalize cmpB x.s last = cp at *
            go_wp2_with fail
            refine (HC _).mono ?_
            rintro e0 wq ⟨rfl, n2, rfl⟩
            go_wp2
            go_roundw
            case rel => exact ⟨k + 1, nx, by omega, by go_num, rfl, by rw [HV.out]; exact HN2, hnx, _, rfl⟩
            case measure => simp [intOf]; omega
      · have i1 : ¬ (k : Int) < (v.length : Int) := by omega
        rw [List.take_of_length_le (by omega)] at HNX
        have hbn : Below w0.heap.size w0 (w0.drewN n) := ⟨rfl, rfl, rfl, Nat.le_refl _, fun _ _ => rfl⟩
        have hot2 : OT (w0.drewN n) w.heap.size u3 out := Row1.kept (e := 155) HOT.out (Kept.of_below hbn hbs) (by decide)
        have hb2 : Below w.heap.size w (w0.drewN n) := hb.trans (hbn.mono hbs)
        by_cases hnn : nx = ⟨#[]⟩
        · subst hnn
          have HD : Hid (out = nms v) := HSF.out.done HNX.out HNE.out
          obtain ⟨q, cc, rfl, htl, h1, h2⟩ := hot2.texts
          clear HNX HSF HOT
          go_wp2
          go_ret
          exact ⟨by rw [← HD.out]; exact ⟨q, cc, rfl, htl, h1, h2⟩, hb2⟩
        · have hnl : nx.data.toList ≠ [] := fun h => hnn (bytes_inj h)
          have hnb : (nx.toList == []) = false := by rw [beq_eq_false_iff_ne, ByteArray.toList_eq]; exact hnl
          obtain ⟨s1, s2, s3⟩ := HSF.out.next HNX.out hnl
          have HS1 : Hid (Sofar (vars v) nx (out ++ [nx])) := s1
          have HS2 : Hid (aft (vars v) nx < aft (vars v) last) := s2
          have HO2 : Hid (OT (w0.drewN n) w.heap.size u3 out) := hot2
          have hsz2 := hb2.size
          clear s1 s2 s3 hnl hnn hot2 HSF HOT HNX
          go_wp2_with (at_builtin; refine append_text _ rfl (.tmp 51) (.tmp 53) rfl w.heap.size u3 out rfl HO2.out nx rfl (by omega) hsz2 ?_; intro v1 w3 hot1 hk1; have hb3 := hb2.trans hk1.bel; have HO3 : Hid (OT w3 w.heap.size v1 (out ++ [nx])) := hot1; clear hot1)
          go_roundw
          case rel => exact ⟨out ++ [nx], nx, rfl, HO3.out, HS1, hnx, hb3⟩
          case measure => exact HS2.out
end Go.Proofs.YtnpneglipogehaaGreatDoor
