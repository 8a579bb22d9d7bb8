import Derived.Test.YtjjjlpnbniofjaaFrI
import Derived.Maps.OwnSet
import Derived.Maps.OwnOps
import Derived.Carry
import Derived.Lib.SlKeysI
namespace Go.Proofs.Ytjjjlpnbniofjaa
open Go.RowKit
open Go.Maps
theorem wf_i64 {a : Int} (h0 : -9223372036854775808 ≤ a) (h1 : a ≤ 9223372036854775807) : (Lit.int .i64 a).wf = true := by
  simp [Lit.wf, IntKind.min, IntKind.max, IntKind.signed, IntKind.bits]; omega
theorem lawI : Keyed Try.prog 3 := int_keyed Try.underlying3
theorem zeroI (w : World) : (zeroValue 3).run Try.prog w = .ok (.int .i64 0) w := by kernel_rfl
theorem keyI {a : Int} (h0 : -9223372036854775808 ≤ a) (h1 : a ≤ 9223372036854775807) : keyOf Try.prog 3 (.int .i64 a) = some (.int .i64 a) := keyOf_int_mk Try.underlying3 (wf_i64 h0 h1)
/-- Block b is a map of ints of the call's own that reads as g (0 where there is no key). -/
def MapI (w : World) (b n : Nat) (g : Int → Int) : Prop :=
  ∃ D : DataW Unit, w.ownsMap Try.prog 3 (plainElem Try.prog 3) b n D ∧ (∀ k, Maps.has D (.int .i64 k) = decide (0 < g k)) ∧ ∀ k, D.atKey (.int .i64 k) (.lit (.int .i64 0)) = .lit (.int .i64 (g k))
theorem mapI_made (w : World) : MapI (w.alloc (.map #[] 0)) w.heap.size 0 (fun _ => 0) :=
  ⟨.map [], World.ownsMap_made _ _ _ _, fun k => by simp [Maps.has_eq], fun k => rfl⟩
theorem MapI.kept {w w' : World} {b n : Nat} {g : Int → Int} {row : Option Nat} (h : MapI w b n g) (hg : w.grownBy w' row) (hne : some b ≠ row) : MapI w' b n g := by
  obtain ⟨D, h1, h2, h3⟩ := h
  exact ⟨D, h1.kept hg hne, h2, h3⟩
theorem MapI.keep {w w' : World} {b n : Nat} {g : Int → Int} (h : MapI w b n g) (hb : Below w.heap.size w w') : MapI w' b n g := h.kept (gb_of_below hb) (by simp)
theorem MapI.lt {w : World} {b n : Nat} {g : Int → Int} (h : MapI w b n g) : b < w.heap.size := by obtain ⟨D, h1, _⟩ := h; exact h1.lt
theorem lit_inj {a b : Int} (h : (DataW.lit (.int .i64 a) : DataW Unit) = .lit (.int .i64 b)) : a = b := by injection h with h; injection h
theorem MapI.run {w : World} {b n : Nat} {g : Int → Int} (h : MapI w b n g) {k : Int} (h0 : -9223372036854775808 ≤ k) (h1 : k ≤ 9223372036854775807) :
    (Instr.lookup 71 (.map (some b)) (.int .i64 k) false).run Try.prog w = .ok (.int .i64 (g k)) w := by
  obtain ⟨D, hown, _, hat⟩ := h
  obtain ⟨c, hrun, hc, _⟩ := hown.lookup_int lawI Try.underlying71 Try.underlying3 (zeroI _) (keyI h0 h1)
  rw [hat k] at hc
  have e : g k = c := lit_inj hc
  rw [e]; exact hrun
def updI (g : Int → Int) (k v : Int) : Int → Int := fun j => if j = k then v else g j
theorem lit_ne {j k : Int} (h : j ≠ k) : (Lit.int .i64 j) ≠ Lit.int .i64 k := fun e => h (by injection e)
theorem mapI_put {w' : World} {b n : Nat} {g : Int → Int} {D : DataW Unit} {k v : Int} (hm : Maps.IsMap D) (h2 : ∀ k, Maps.has D (.int .i64 k) = decide (0 < g k)) (h3 : ∀ k, D.atKey (.int .i64 k) (.lit (.int .i64 0)) = .lit (.int .i64 (g k)))
    (hv : 0 < v) (hown : w'.ownsMap Try.prog 3 (plainElem Try.prog 3) b n (D.put (.int .i64 k) (.lit (.int .i64 v)))) : MapI w' b n (updI g k v) := by
  refine ⟨_, hown, fun j => ?_, fun j => ?_⟩
  · unfold updI
    by_cases hj : j = k
    · subst hj; rw [Maps.has_put_same hm (show WideAt.IsKeyLit (.int .i64 j) from trivial), if_pos rfl]; simp [hv]
    · rw [Maps.has_put_other (lit_ne hj), if_neg hj, h2]
  · unfold updI
    by_cases hj : j = k
    · subst hj; rw [Maps.atKey_put_same hm (show WideAt.IsKeyLit (.int .i64 j) from trivial), if_pos rfl]
    · rw [Maps.atKey_put_other (lit_ne hj), if_neg hj, h3]
theorem mapI_del {w' : World} {b n : Nat} {g : Int → Int} {D : DataW Unit} {k : Int} (h2 : ∀ k, Maps.has D (.int .i64 k) = decide (0 < g k)) (h3 : ∀ k, D.atKey (.int .i64 k) (.lit (.int .i64 0)) = .lit (.int .i64 (g k)))
    (hown : w'.ownsMap Try.prog 3 (plainElem Try.prog 3) b n (D.del (.int .i64 k))) : MapI w' b n (updI g k 0) := by
  refine ⟨_, hown, fun j => ?_, fun j => ?_⟩
  · unfold updI
    by_cases hj : j = k
    · subst hj; rw [Maps.has_del_same, if_pos rfl]; simp
    · rw [Maps.has_del_other (lit_ne hj), if_neg hj, h2]
  · unfold updI
    by_cases hj : j = k
    · subst hj; rw [Maps.atKey_del_same, if_pos rfl]
    · rw [Maps.atKey_del_other (lit_ne hj), if_neg hj, h3]
theorem MapI.congr {w : World} {b n : Nat} {g g' : Int → Int} (h : MapI w b n g) (e : ∀ k, g k = g' k) : MapI w b n g' := by
  have : g = g' := funext e
  rw [← this]; exact h
theorem MapI.mono {w : World} {b n n' : Nat} {g : Int → Int} (h : MapI w b n g) (e : n ≤ n') : MapI w b n' g := by
  obtain ⟨D, h1, h2, h3⟩ := h
  exact ⟨D, h1.mono e, h2, h3⟩
theorem mapI_own {w : World} {b n : Nat} {g : Int → Int} {B T k m : Nat} {v : Value} {xs : List Value} (h : MapI w b n g) (ho : w.ownsRow B T k v m xs) : some b ≠ v.ownBlock := by
  obtain ⟨D, ⟨es, clock, hb, _⟩, _⟩ := h
  rcases ho.2 with ⟨rfl, _⟩ | ⟨g', cap, cur, rfl, _, hg, _⟩
  · simp [Value.ownBlock]
  · simp only [Value.ownBlock]
    intro e
    injection e with e
    subst e
    rw [hb] at hg
    cases hg
theorem refC_snoc {m : List FileRefR} {x : FileRefR} (h : ∀ y ∈ m, y.a0 ≠ x.a0) (f : Int) : refC (m ++ [x]) f = updI (refC m) x.a0 x.a1 f := by
  unfold updI
  induction m with
  | nil =>
    simp only [List.nil_append, refC]
    by_cases hf : f = x.a0
    · rw [if_pos hf.symm, if_pos hf]
    · rw [if_neg (fun e => hf e.symm), if_neg hf]
  | cons y m ih =>
    have ih := ih (fun z hz => h z (by simp [hz]))
    have hy := h y (by simp)
    simp only [List.cons_append, refC]
    rw [ih]
    by_cases hf : y.a0 = f
    · rw [if_pos hf, if_neg (by omega), if_pos hf]
    · rw [if_neg hf, if_neg hf]
theorem refC_next {l : List FileRefR} (hv : vRefs l = true) {k : Nat} {x : FileRefR} (hx : l[k]? = some x) (f : Int) : refC (l.take (k + 1)) f = updI (refC (l.take k)) x.a0 x.a1 f := by
  rw [List.take_add_one, hx]
  refine refC_snoc (fun y hy => ?_) f
  obtain ⟨i, hi⟩ := List.getElem?_of_mem hy
  rw [List.getElem?_take] at hi
  split at hi
  · have := pw_get (vRefs_pw hv) (by assumption) hi hx
    omega
  · cases hi
set_option maxRecDepth 100000 in
set_option maxHeartbeats 2000000 in
theorem usesOf_any (A : Option Addr) (c : Nat) (l : List FileRefR) (w : World) (ha : Row FileRefR.enc 2 w A l) (hv : vRefs l = true) :
    Calls Try.prog 60 #[.slice A l.length c] w fun e w' => e = .returned (.map (some w.heap.size)) ∧ MapI w' w.heap.size l.length (refC l) ∧ Below w.heap.size w w' := by
  have hal := ha.1
  have hmm := @run_makeMap Try.prog
  have HV := Lib.hid hv
  clear hv
  go_enter Try.func60, Try.ntmps60
  go_wp2
  go_loopw [9] (fun i wr => ∃ k : Nat, k ≤ l.length ∧ i = .int .i64 k ∧ MapI wr w.heap.size k (refC (l.take k)) ∧ Below w.heap.size w wr) (fun i _ => l.length - (Go.RowKit.intOf i).toNat)
  case atStart => exact ⟨0, Nat.zero_le _, rfl, mapI_made _, (Below.refl _ _).alloc (Nat.le_refl _) _⟩
  case round =>
    obtain ⟨k, hk, rfl, hm, hbw⟩ := hrel
    by_cases hlt : k < l.length
    · obtain ⟨b, off, rfl, _, q0, q1⟩ := (ha.keep hbw).atFileRef hlt
      have hx := List.getElem?_eq_getElem hlt
      generalize l[k] = x at *
      have hbd := vRefs_bd HV.out (List.mem_of_getElem? hx)
      have hnx := refC_next HV.out hx
      have Hnx := Lib.hid hnx
      clear hx ha hnx
      obtain ⟨D, hown, hhas, hat⟩ := hm
      have hkey := keyI (a := x.a0) (by omega) (by omega)
      have hwf := wf_i64 (a := x.a1) (by omega) (by omega)
      have hown2 := hown.alloc (.cells #[.int .i64 x.a0, .int .i64 x.a1] 67)
      have Hf := Lib.hid (show _ ∧ _ ∧ _ from ⟨hown.isMap, hhas, hat⟩)
      clear hhas hat
      go_wp2_with (first
        | (at_mapUpdate; refine wpList_mapUpdate_own _ rfl _ _ _ 71 rfl 3 3 lawI Try.underlying71 _ w.heap.size k _ rfl hown2 (by unfold maxLen; omega) _ _ _ rfl rfl hkey _ [] (plainElem_int Try.underlying3 hwf) ?_; intro w1 hown1 hgrow1)
        | go_in)
      have hm1 := (mapI_put Hf.out.1 Hf.out.2.1 Hf.out.2.2 (by omega) hown1).congr (fun f => (Hnx.out f).symm)
      have hbw1 := (hbw.alloc hbw.size (.cells #[.int .i64 x.a0, .int .i64 x.a1] 67)).trans (below_of_gb (B0 := w.heap.size) hgrow1 (by have := hbw.size; simp; omega) (fun g hg => by injection hg with hg; omega))
      clear hown1 hgrow1 hown hown2
      go_wp2
      go_roundw
      case rel => exact ⟨k + 1, by omega, by go_num, hm1, hbw1⟩
      case measure => simp [Go.RowKit.intOf]; omega
    · obtain rfl : k = l.length := by omega
      rw [List.take_of_length_le (Nat.le_refl _)] at hm
      go_wp2
      all_goals go_returns
      all_goals exact ⟨rfl, hm, hbw⟩
set_option maxHeartbeats 1000000 in
theorem specFc_any (A : Option Addr) (c : Nat) (l : List FileRefR) (f : Int) (w : World) (ha : Row FileRefR.enc 2 w A l) :
    Calls Try.prog 16 #[.slice A l.length c, .int .i64 f] w fun e w' => e = .returned (.int .i64 (fcF l f)) ∧ Below w.heap.size w w' := by
  have hal := ha.1
  unfold fcF
  rcases Bool.eq_false_or_eq_true (vRefs l) with hv | hv
  all_goals
    rw [hv]
    have Hv := Lib.hid hv
    clear hv
    go_enter Try.func16, Try.ntmps16
    go_wp2_with fail
    refine (specRefs_any A c l w ha).mono ?_
    rintro e w1 ⟨rfl, hb1⟩
    rw [Hv.out]
  · go_wp2_with fail
    refine (specRefC_any A c l f _ (ha.keep hb1)).mono ?_
    rintro e w2 ⟨rfl, rfl⟩
    go_wp2
    all_goals go_returns
    all_goals exact ⟨rfl, hb1⟩
  · go_wp2
    all_goals go_returns
    all_goals exact ⟨rfl, hb1⟩
set_option maxRecDepth 100000 in
set_option maxHeartbeats 1000000 in
theorem implFc_any (A : Option Addr) (c : Nat) (l : List FileRefR) (f : Int) (w : World) (ha : Row FileRefR.enc 2 w A l) (h0 : -9223372036854775808 ≤ f) (h1 : f ≤ 9223372036854775807) :
    Calls Try.prog 18 #[.slice A l.length c, .int .i64 f] w fun e w' => e = .returned (.int .i64 (fcF l f)) ∧ Below w.heap.size w w' := by
  have hal := ha.1
  unfold fcF
  rcases Bool.eq_false_or_eq_true (vRefs l) with hv | hv
  all_goals
    rw [hv]
    have Hv := Lib.hid hv
    clear hv
    go_enter Try.func18, Try.ntmps18
    go_wp2_with fail
    refine (implRefs_any A c l w ha).mono ?_
    rintro e w1 ⟨rfl, hb1⟩
    rw [Hv.out]
  · go_wp2_with fail
    refine (usesOf_any A c l _ (ha.keep hb1) Hv.out).mono ?_
    rintro e w2 ⟨rfl, hm, hb2⟩
    have hrun := hm.run h0 h1
    have hbw := hb1.trans (hb2.mono hb1.size)
    go_wp2
    all_goals go_returns
    all_goals exact ⟨rfl, hbw⟩
  · go_wp2
    all_goals go_returns
    all_goals exact ⟨rfl, hb1⟩
end Go.Proofs.Ytjjjlpnbniofjaa
