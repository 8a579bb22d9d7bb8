import Derived.Test.YtehedhkadjidpabPure
import Derived.Test.YtehedhkadjidpabClone
import Derived.Test.YtehedhkadjidpabMkB
import Derived.Outline
namespace Go.Proofs.Ytehedhkadjidpab
open Go.RowKit
def updP (l : List InputR) (i mark now : Int) : Prop := vIns l = true ∧ 0 ≤ i ∧ i ≤ (l.length : Int) - 1 ∧ -1 ≤ mark ∧ mark ≤ 999 ∧ 0 ≤ now ∧ now ≤ 9999
instance (l : List InputR) (i mark now : Int) : Decidable (updP l i mark now) := by unfold updP; infer_instance
def updE (x : InputR) (mark now : Int) : InputR := ⟨mx x.a0 mark, mx x.a1 now⟩
def updL (l : List InputR) (i mark now : Int) : List InputR := if updP l i mark now then l.modify i.toNat (fun x => updE x mark now) else []
def updK (l : List InputR) (i mark now : Int) : Bool := decide (updP l i mark now)
theorem set_flat2 {α : Type} {enc : α → List Value} (hk : ∀ x : α, (enc x).length = 2) (l : List α) (n : Nat) (x y : α) (u v : Value) (hx : l[n]? = some x) (hy : enc y = [u, v]) :
    ((l.flatMap enc).set (n * 2) u).set (n * 2 + 1) v = (l.set n y).flatMap enc := by
  induction l generalizing n with
  | nil => simp at hx
  | cons z l ih =>
    have hz := hk z
    obtain ⟨p, q, hz⟩ : ∃ p q, enc z = [p, q] := by
      rcases h : enc z with _ | ⟨p, _ | ⟨q, _ | ⟨r, t⟩⟩⟩ <;> simp [h] at hz
      exact ⟨p, q, rfl⟩
    rcases n with _ | n
    · simp [List.flatMap_cons, hz, hy]
    · have := ih n (by simpa using hx)
      simp only [List.flatMap_cons, List.set_cons_succ, hz, ← this]
      rw [show (n + 1) * 2 = n * 2 + 1 + 1 by omega]
      simp [List.set_cons_succ]
theorem modify_set {α : Type} (f : α → α) (l : List α) (n : Nat) (x : α) (h : l[n]? = some x) : l.modify n f = l.set n (f x) := by
  induction l generalizing n with
  | nil => simp at h
  | cons z l ih =>
    rcases n with _ | n
    · simp at h; subst h; rfl
    · have := ih n (by simpa using h)
      simp only [List.modify_succ_cons, List.set_cons_succ, this]
theorem tell_any (x : InputR) (mark now : Int) (w : World) : Calls Try.prog 65 #[.agg #[.int .i64 x.a0, .int .i64 x.a1], .int .i64 mark, .int .i64 now] w
    fun e w' => e = .returned (.agg #[.int .i64 (mx x.a0 mark), .int .i64 (mx x.a1 now)]) ∧ Below w.heap.size w w' := by
  go_enter Try.func65, Try.ntmps65
  go_wp2
  all_goals go_returns
  all_goals refine ⟨ret_agg2 ?_ ?_, by go_grown⟩
  all_goals (unfold mx; split <;> omega)
set_option maxRecDepth 100000 in
set_option maxHeartbeats 2000000 in
theorem implUpd_any (A : Option Addr) (c : Nat) (l : List InputR) (i mark now : Int) (w : World) (ha : Row InputR.enc 2 w A l) :
    Calls Try.prog 24 #[.slice A l.length c, .int .i64 i, .int .i64 mark, .int .i64 now] w (OwnBPost InputR.enc 2 33 w (updL l i mark now) (updK l i mark now)) := by
  have hal := ha.1
  go_enter Try.func24, Try.ntmps24
  go_wp2_with fail
  refine (implIns_any A c l _ ha).mono ?_
  rintro e w1 ⟨rfl, hb1⟩
  by_cases hv : updP l i mark now
  · have hF : updL l i mark now = l.modify i.toNat (fun x => updE x mark now) := by unfold updL; rw [if_pos hv]
    have hK : updK l i mark now = true := by unfold updK; exact decide_eq_true hv
    have HF := Lib.hid hF
    have HK := Lib.hid hK
    unfold updP at hv
    obtain ⟨hv, i0, i1, m0, m1, n0, n1⟩ := hv
    rw [hv]
    clear hF hK hv
    obtain ⟨n, rfl⟩ := Int.eq_ofNat_of_zero_le i0
    rw [Int.toNat_natCast] at HF
    have hn : n < l.length := by omega
    go_wp2_with (first | (go_at_call 62; refine (inRI_t _ _ _ _ (by omega) (by omega)).mono ?_; rintro e w' ⟨rfl, rfl⟩) | (go_at_call 63; go_in) | (go_at_call 64; go_in))
    refine (cloneIn_any A c l _ (ha.keep hb1)).mono ?_
    rintro e w2 ⟨A2, c2, rfl, ho2, hb2⟩
    have hbw2 := hb1.trans (hb2.mono hb1.size)
    have hown := ho2.2
    obtain ⟨g, cap, hvv, hBg, hglt⟩ := hown.form (by omega)
    injection hvv with hA _ hc
    subst hA hc
    obtain ⟨b', off', hA2, _, q0', q1'⟩ := (ho2.row InputR.enc_len).atInput hn
    injection hA2 with hA2
    injection hA2 with e1 e2
    subst e1 e2
    rw [Nat.zero_add] at q0' q1'
    have hx : l[n]? = some l[n] := List.getElem?_eq_getElem hn
    generalize l[n] = x at *
    have Hx := Lib.hid hx
    have Ho := Lib.hid ho2
    clear hx ho2 hb2 ha
    go_wp2_with fail
    refine (tell_any x mark now _).mono ?_
    rintro e w3 ⟨rfl, hb3⟩
    have hown3 := ownsRow_keep hown hb3
    have hlen3 := hown3.1
    have k0 : w3.cell? ⟨g, n * 2, none⟩ = some (.int .i64 x.a0) := (hb3.cell (by simpa using hglt)).trans q0'
    have k1 : w3.cell? ⟨g, n * 2 + 1, none⟩ = some (.int .i64 x.a1) := (hb3.cell (by simpa using hglt)).trans q1'
    have f0 := hown3.frozenAt (n * 2)
    have f1 := hown3.frozenAt (n * 2 + 1)
    have hB3 : Below w.heap.size w w3 := hbw2.trans (hb3.mono hbw2.size)
    obtain ⟨s1, g1⟩ := hown3.stored (n * 2) (.int .i64 (mx x.a0 mark))
    obtain ⟨s2, g2⟩ := s1.stored (n * 2 + 1) (.int .i64 (mx x.a1 now))
    rw [set_flat2 InputR.enc_len l n x (updE x mark now) (.int .i64 (mx x.a0 mark)) (.int .i64 (mx x.a1 now)) Hx.out rfl] at s2
    have hgw : w.heap.size ≤ g := Nat.le_trans hb1.size hBg
    have hmod : l.modify n (fun x => updE x mark now) = l.set n (updE x mark now) := by
      exact modify_set _ l n x Hx.out
    rw [hmod] at HF
    have hll : (l.set n (updE x mark now)).length = l.length := List.length_set
    have hfin : Acc InputR.enc 2 33 w (l.set n (updE x mark now)) (.slice (some ⟨g, 0, none⟩) l.length c2) ((w3.setCell ⟨g, n * 2, none⟩ (.int .i64 (mx x.a0 mark))).setCell ⟨g, n * 2 + 1, none⟩ (.int .i64 (mx x.a1 now))) := by
      refine ⟨?_, (hB3.setCell hgw _).setCell hgw _⟩
      rw [hll]
      exact ⟨s2.1, s2.2.imp_right fun ⟨g, cap, cur, h1, h2, h3⟩ => ⟨g, cap, cur, h1, Nat.le_trans hb1.size h2, h3⟩⟩
    have Hfin := Lib.hid hfin
    clear hfin s1 s2 g1 g2 hown3 hown hb3 hB3 hbw2 q0' q1' hmod Hx Ho hlen3 hll
    go_wp2
    all_goals go_returns
    all_goals (rw [HF.out, HK.out]; exact accB Hfin.out (by simp; omega) rfl)
  · have hF : updL l i mark now = [] := by unfold updL; rw [if_neg hv]
    have hK : updK l i mark now = false := by unfold updK; exact decide_eq_false hv
    have HF := Lib.hid hF
    have HK := Lib.hid hK
    have Hv := Lib.hid hv
    rcases Bool.eq_false_or_eq_true (vIns l) with hw | hw
    all_goals
      rw [hw]
      have Hw := Lib.hid hw
      clear hF hK hv hw
      go_wp2_with (first | (go_at_call 62; go_in) | (go_at_call 63; go_in) | (go_at_call 64; go_in))
      all_goals first | (go_returns; rw [HF.out, HK.out]; exact accB (acc_none _ _ _ hb1) (by simp) rfl) | (exfalso; apply Hv.out; unfold updP; refine ⟨Hw.out, ?_⟩; clear Hv Hw HF HK; first | omega | (simp only [Bool.not_eq_eq_eq_not, Bool.not_true, Bool.not_false, decide_eq_false_iff_not, decide_eq_true_eq] at *; omega))
end Go.Proofs.Ytehedhkadjidpab
