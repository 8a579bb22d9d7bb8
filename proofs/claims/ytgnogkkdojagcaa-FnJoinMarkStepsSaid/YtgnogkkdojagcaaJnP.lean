import Derived.Test.YtgnogkkdojagcaaDrJn
import Derived.Test.YtgnogkkdojagcaaJmI
import Derived.Test.YtgnogkkdojagcaaEqEv
import Derived.Test.YtgnogkkdojagcaaBo
namespace Go.Proofs.Ytgnogkkdojagcaa
open Go.RowKit
set_option maxHeartbeats 4000000 in
theorem equalJoin_same (A : Option Addr) (c : Nat) (B : Option Addr) (d : Nat) (A' : Option Addr) (c' : Nat) (B' : Option Addr) (d' : Nat) (l r : List EventR) (m : Int) (w : World) (ha : Row EventR.enc 3 w A l) (hb : Row EventR.enc 3 w B r) (ha' : Row EventR.enc 3 w A' l) (hb' : Row EventR.enc 3 w B' r) :
    Calls Try.prog 21 #[.agg #[.slice A l.length c, .slice B r.length d, .int .i64 m], .agg #[.slice A' l.length c', .slice B' r.length d', .int .i64 m]] w fun e w' => e = .returned (.bool true) ∧ Below w.heap.size w w' := by
  have x0 := Bx.made w (.slice A l.length c) (.slice B r.length d) (.int .i64 m) 46
  have x1 := Bx.made (w.alloc (.cells #[.slice A l.length c, .slice B r.length d, .int .i64 m] 46)) (.slice A' l.length c') (.slice B' r.length d') (.int .i64 m) 46
  have y0 := x0.keep ((Below.refl _ _).alloc (Nat.le_refl _) (.cells #[.slice A' l.length c', .slice B' r.length d', .int .i64 m] 46))
  have hB : Below w.heap.size w ((w.alloc (.cells #[.slice A l.length c, .slice B r.length d, .int .i64 m] 46)).alloc (.cells #[.slice A' l.length c', .slice B' r.length d', .int .i64 m] 46)) := ((Below.refl _ _).alloc (Nat.le_refl _) _).alloc (by simp) _
  simp only [World.size_alloc] at x0 x1 y0
  clear x0
  obtain ⟨k00, k01, k02, kf0, kl0⟩ := y0
  obtain ⟨k10, k11, k12, kf1, kl1⟩ := x1
  have y0 : Bx _ _ _ _ _ := ⟨k00, k01, k02, kf0, kl0⟩
  have x1 : Bx _ _ _ _ _ := ⟨k10, k11, k12, kf1, kl1⟩
  go_enter Try.func21, Try.ntmps21
  go_wp2_with fail
  generalize ((w.alloc (.cells #[.slice A l.length c, .slice B r.length d, .int .i64 m] 46)).alloc (.cells #[.slice A' l.length c', .slice B' r.length d', .int .i64 m] 46)) = wA at *
  refine (equalEvents_same A A' c c' l _ (ha.keep hB) (ha'.keep hB)).mono ?_
  rintro e w1 ⟨rfl, b1⟩
  have B1 := hB.trans (b1.mono hB.size)
  obtain ⟨p00, p01, p02, pf0, pl0⟩ := y0.keep b1
  obtain ⟨p10, p11, p12, pf1, pl1⟩ := x1.keep b1
  have v0 := y0.keep b1
  have v1 := x1.keep b1
  clear x1 y0 b1 hB pf0 pf1 p02 p12 k00 k01 k02 kf0 kl0 k10 k11 k12 kf1 kl1
  go_wp2_with fail
  refine (equalEvents_same B B' d d' r _ (hb.keep B1) (hb'.keep B1)).mono ?_
  rintro e w2 ⟨rfl, b2⟩
  have B2 := B1.trans (b2.mono B1.size)
  clear p00 p01 p10 p11
  obtain ⟨p00, p01, p02, pf0, pl0'⟩ := v0.keep b2
  obtain ⟨p10, p11, p12, pf1, pl1'⟩ := v1.keep b2
  clear b2 v0 v1 B1
  go_wp2
  all_goals go_returns
  all_goals exact ⟨rfl, B2⟩
theorem vEvs_filter {l : List EventR} (p : EventR → Bool) (h : vEvs l = true) : vEvs (l.filter p) = true := by
  unfold vEvs at *
  rw [Bool.and_eq_true, decide_eq_true_eq, List.all_eq_true] at *
  exact ⟨Nat.le_trans (List.length_filter_le _ _) h.1, fun x hx => h.2 x ((List.mem_filter.1 hx).1)⟩
theorem jmLp_twice {a b k : Int} (h : a ≤ b) (l : List EventR) : (l.filter (jmLp a k)).filter (jmLp b k) = l.filter (jmLp b k) := by
  rw [List.filter_filter]
  refine List.filter_congr fun x _ => ?_
  rw [Bool.eq_iff_iff, Bool.and_eq_true]
  unfold jmLp
  rw [decide_eq_true_eq, decide_eq_true_eq]
  exact ⟨fun k => k.1, fun k => ⟨k, by omega⟩⟩
theorem jm_half {l r : List EventR} {m mark low high h : Int} (hp : jmP l r m mark low high) (h1 : m ≤ h) (h2 : h ≤ mark) :
    jmP l r m h low high ∧ jmP (jmL l r m h low high) (jmR l r m h low high) h mark low high ∧ jmL (jmL l r m h low high) (jmR l r m h low high) h mark low high = jmL l r m mark low high ∧ jmR (jmL l r m h low high) (jmR l r m h low high) h mark low high = jmR l r m mark low high := by
  obtain ⟨a, b, c⟩ := hp
  obtain ⟨v1, v2, v3, v4⟩ := vjB_parts a
  have p1 : jmP l r m h low high := ⟨a, ⟨h1, by omega⟩, c⟩
  have eL : jmL l r m h low high = l.filter (jmLp h high) := by unfold jmL; rw [if_pos p1]
  have eR : jmR l r m h low high = r.filter (jmLp h (-low)) := by unfold jmR; rw [if_pos p1]
  have p2 : jmP (jmL l r m h low high) (jmR l r m h low high) h mark low high := by
    refine ⟨?_, ⟨h2, b.2⟩, c⟩
    rw [eL, eR]
    unfold vjB
    rw [vEvs_filter _ v1, vEvs_filter _ v2]
    simp; omega
  have p0 : jmP l r m mark low high := ⟨a, b, c⟩
  refine ⟨p1, p2, ?_, ?_⟩
  · rw [jmL, if_pos p2, eL, jmLp_twice h2, jmL, if_pos p0]
  · rw [jmR, if_pos p2, eR, jmLp_twice h2, jmR, if_pos p0]
theorem jm_yes {l r : List EventR} {m mark low high : Int} (hp : jmP l r m mark low high) : jmM l r m mark low high = mark ∧ jmK l r m mark low high = true := ⟨by unfold jmM; rw [if_pos hp], decide_eq_true hp⟩
theorem jm_no {l r : List EventR} {m mark low high : Int} (hp : ¬ jmP l r m mark low high) : jmM l r m mark low high = 0 ∧ jmK l r m mark low high = false := ⟨by unfold jmM; rw [if_neg hp], decide_eq_false hp⟩
end Go.Proofs.Ytgnogkkdojagcaa
