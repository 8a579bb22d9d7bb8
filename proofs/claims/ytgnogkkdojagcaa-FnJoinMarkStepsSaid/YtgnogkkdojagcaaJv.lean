import Derived.Test.YtgnogkkdojagcaaJs
import Derived.Test.YtgnogkkdojagcaaIjI
namespace Go.Proofs.Ytgnogkkdojagcaa
open Go.RowKit
def vjB (l r : List EventR) (m : Int) : Bool := vEvs l && vEvs r && decide (-1 ≤ m ∧ m ≤ 3000)
def jmLp (mark high : Int) (x : EventR) : Bool := decide (mark < x.a0 + high)
def jmP (l r : List EventR) (m mark low high : Int) : Prop := vjB l r m = true ∧ (m ≤ mark ∧ mark ≤ 3000) ∧ vrB low high = true
instance (l r : List EventR) (m mark low high : Int) : Decidable (jmP l r m mark low high) := by unfold jmP; infer_instance
def jmL (l r : List EventR) (m mark low high : Int) : List EventR := if jmP l r m mark low high then l.filter (jmLp mark high) else []
def jmR (l r : List EventR) (m mark low high : Int) : List EventR := if jmP l r m mark low high then r.filter (jmLp mark (-low)) else []
def jmM (l r : List EventR) (m mark low high : Int) : Int := if jmP l r m mark low high then mark else 0
def jmK (l r : List EventR) (m mark low high : Int) : Bool := decide (jmP l r m mark low high)
theorem vrB_bd {low high : Int} (h : vrB low high = true) : -999 ≤ low ∧ low ≤ 999 ∧ -999 ≤ high ∧ high ≤ 999 := by
  unfold vrB at h
  have := of_decide_eq_true h
  omega
set_option maxHeartbeats 2000000 in
theorem specVJ_any (A : Option Addr) (c : Nat) (l : List EventR) (B : Option Addr) (d : Nat) (r : List EventR) (m : Int) (w : World) (ha : Row EventR.enc 3 w A l) (hr : Row EventR.enc 3 w B r) :
    Calls Try.prog 45 #[.agg #[.slice A l.length c, .slice B r.length d, .int .i64 m]] w fun e w' => e = .returned (.bool (vjB l r m)) ∧ Below w.heap.size w w' := by
  have x0 := Bx.made w (.slice A l.length c) (.slice B r.length d) (.int .i64 m) 46
  have hB : Below w.heap.size w (w.alloc (.cells #[.slice A l.length c, .slice B r.length d, .int .i64 m] 46)) := (Below.refl _ _).alloc (Nat.le_refl _) _
  go_enter Try.func45, Try.ntmps45
  go_wp2_with fail
  generalize (w.alloc (.cells #[.slice A l.length c, .slice B r.length d, .int .i64 m] 46)) = wA at *
  refine (specValidEvents_any A c l _ (ha.keep hB)).mono ?_
  rintro e w1 ⟨rfl, b1⟩
  have B1 := hB.trans (b1.mono hB.size)
  have v0 := x0.keep b1
  obtain ⟨p00, p01, p02, pf0, pl0⟩ := v0
  clear b1 hB pf0
  rcases Bool.eq_false_or_eq_true (vEvs l) with h0 | h0
  · rw [h0]
    go_wp2_with fail
    refine (specValidEvents_any B d r _ (hr.keep B1)).mono ?_
    rintro e w2 ⟨rfl, b2⟩
    have B2 := B1.trans (b2.mono B1.size)
    have c02 := (b2.cell (p := ⟨w.heap.size, 2, none⟩) pl0).trans p02
    clear b2 p00 p01 p02 B1
    rcases Bool.eq_false_or_eq_true (vEvs r) with h1 | h1
    · rw [h1]
      by_cases h2 : -1 ≤ m ∧ m ≤ 3000
      · have HV := Lib.hid (show true = vjB l r m by unfold vjB; rw [h0, h1, decide_eq_true h2]; rfl)
        clear h0 h1
        go_wp2
        all_goals go_returns
        all_goals exact ⟨ret_bool HV.out, B2⟩
      · have HV := Lib.hid (show false = vjB l r m by unfold vjB; rw [h0, h1, decide_eq_false h2]; rfl)
        have h3 : m < -1 ∨ 3000 < m := by omega
        have Hh2 := Lib.hid h2
        clear h0 h1 h2
        rcases h3 with h3 | h3
        all_goals
          go_wp2
          all_goals go_returns
          all_goals first | exact ⟨ret_bool HV.out, B2⟩ | exact ⟨ret_bool (by rw [decide_eq_false (by omega)]; exact HV.out), B2⟩
    · rw [h1]
      have HV := Lib.hid (show false = vjB l r m by unfold vjB; rw [h0, h1]; rfl)
      clear h0 h1
      go_wp2
      all_goals go_returns
      all_goals exact ⟨ret_bool HV.out, B2⟩
  · rw [h0]
    have HV := Lib.hid (show false = vjB l r m by unfold vjB; rw [h0]; rfl)
    clear h0
    go_wp2
    all_goals go_returns
    all_goals exact ⟨ret_bool HV.out, B1⟩
set_option maxHeartbeats 2000000 in
theorem implVJ_any (A : Option Addr) (c : Nat) (l : List EventR) (B : Option Addr) (d : Nat) (r : List EventR) (m : Int) (w : World) (ha : Row EventR.enc 3 w A l) (hr : Row EventR.enc 3 w B r) :
    Calls Try.prog 42 #[.agg #[.slice A l.length c, .slice B r.length d, .int .i64 m]] w fun e w' => e = .returned (.bool (vjB l r m)) ∧ Below w.heap.size w w' := by
  have x0 := Bx.made w (.slice A l.length c) (.slice B r.length d) (.int .i64 m) 46
  have hB : Below w.heap.size w (w.alloc (.cells #[.slice A l.length c, .slice B r.length d, .int .i64 m] 46)) := (Below.refl _ _).alloc (Nat.le_refl _) _
  go_enter Try.func42, Try.ntmps42
  go_wp2_with fail
  generalize (w.alloc (.cells #[.slice A l.length c, .slice B r.length d, .int .i64 m] 46)) = wA at *
  refine (implValidEvents_any A c l _ (ha.keep hB)).mono ?_
  rintro e w1 ⟨rfl, b1⟩
  have B1 := hB.trans (b1.mono hB.size)
  have v0 := x0.keep b1
  obtain ⟨p00, p01, p02, pf0, pl0⟩ := v0
  clear b1 hB pf0
  rcases Bool.eq_false_or_eq_true (vEvs l) with h0 | h0
  · rw [h0]
    go_wp2_with fail
    refine (implValidEvents_any B d r _ (hr.keep B1)).mono ?_
    rintro e w2 ⟨rfl, b2⟩
    have B2 := B1.trans (b2.mono B1.size)
    have c02 := (b2.cell (p := ⟨w.heap.size, 2, none⟩) pl0).trans p02
    clear b2 p00 p01 p02 B1
    rcases Bool.eq_false_or_eq_true (vEvs r) with h1 | h1
    · rw [h1]
      by_cases h2 : -1 ≤ m ∧ m ≤ 3000
      · have HV := Lib.hid (show true = vjB l r m by unfold vjB; rw [h0, h1, decide_eq_true h2]; rfl)
        clear h0 h1
        go_wp2_with fail
        refine (reach_t m _ h2.1 h2.2).mono ?_
        rintro e w3 ⟨rfl, rfl⟩
        go_wp2
        all_goals go_returns
        all_goals exact ⟨ret_bool HV.out, B2⟩
      · have HV := Lib.hid (show false = vjB l r m by unfold vjB; rw [h0, h1, decide_eq_false h2]; rfl)
        have h3 : m < -1 ∨ 3000 < m := by omega
        have Hh2 := Lib.hid h2
        clear h0 h1 h2
        rcases h3 with h3 | h3
        all_goals
          go_wp2_with fail
          refine (reach_f m _ Hh2.out).mono ?_
          rintro e w3 ⟨rfl, rfl⟩
          go_wp2
          all_goals go_returns
          all_goals first | exact ⟨ret_bool HV.out, B2⟩ | exact ⟨ret_bool (by rw [decide_eq_false (by omega)]; exact HV.out), B2⟩
    · rw [h1]
      have HV := Lib.hid (show false = vjB l r m by unfold vjB; rw [h0, h1]; rfl)
      clear h0 h1
      go_wp2
      all_goals go_returns
      all_goals exact ⟨ret_bool HV.out, B2⟩
  · rw [h0]
    have HV := Lib.hid (show false = vjB l r m by unfold vjB; rw [h0]; rfl)
    clear h0
    go_wp2
    all_goals go_returns
    all_goals exact ⟨ret_bool HV.out, B1⟩
end Go.Proofs.Ytgnogkkdojagcaa
