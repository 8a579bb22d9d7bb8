import Derived.Test.YtjjjlpnbniofjabVnCat
import Derived.Test.YtjjjlpnbniofjabSrch
import Derived.Shelf.Abstract
namespace Go.Proofs.Ytjjjlpnbniofjab
open Go.RowKit
def pVer (key time : Int) (x : VersionR) : Bool := decide (x.a0 = key ∧ x.a1 ≤ time)
/-- The place of the last one of the first k elements that has a property; -1 for none. -/
def lastIx {α : Type} (p : α → Bool) (l : List α) : Nat → Int
  | 0 => -1
  | k + 1 => match l[k]? with
    | some x => if p x then (k : Int) else lastIx p l k
    | none => lastIx p l k
theorem last_hit {α : Type} {p : α → Bool} {l : List α} {k : Nat} {x : α} (hx : l[k]? = some x) (hp : p x = true) : lastIx p l (k + 1) = k := by simp [lastIx, hx, hp]
theorem last_miss {α : Type} {p : α → Bool} {l : List α} {k : Nat} {x : α} (hx : l[k]? = some x) (hp : p x = false) : lastIx p l (k + 1) = lastIx p l k := by simp [lastIx, hx, hp]
theorem last_bd {α : Type} (p : α → Bool) (l : List α) (k : Nat) : -1 ≤ lastIx p l k ∧ lastIx p l k < k := by
  induction k with
  | zero => simp [lastIx]
  | succ k ih =>
    unfold lastIx
    split
    · split <;> omega
    · omega
theorem last_none {α : Type} {p : α → Bool} {l : List α} {k : Nat} (h : ∀ i x, i < k → l[i]? = some x → p x = false) : lastIx p l k = -1 := by
  induction k with
  | zero => rfl
  | succ k ih =>
    unfold lastIx
    split
    · rename_i x hx
      rw [h k x (by omega) hx]
      exact ih (fun i x hi hx => h i x (by omega) hx)
    · exact ih (fun i x hi hx => h i x (by omega) hx)
theorem last_eq {α : Type} {p : α → Bool} {l : List α} {k j : Nat} {x : α} (hj : j < k) (hx : l[j]? = some x) (hp : p x = true) (h : ∀ i y, j < i → i < k → l[i]? = some y → p y = false) : lastIx p l k = j := by
  induction k with
  | zero => omega
  | succ k ih =>
    rcases Nat.lt_or_eq_of_le (Nat.le_of_lt_succ hj) with hlt | rfl
    · unfold lastIx
      have hr := ih hlt (fun i y h1 h2 h3 => h i y h1 (by omega) h3)
      split
      · rename_i y hy
        rw [h k y hlt (by omega) hy]
        exact hr
      · exact hr
    · exact last_hit hx hp
def verI (l : List VersionR) (key time : Int) : Int := lastIx (pVer key time) l l.length
/-- The value of a key at a time in a valid table (0 for none). -/
def valV (l : List VersionR) (key time : Int) : Int := match l[(verI l key time).toNat]? with
  | some x => if 0 ≤ verI l key time then x.a2 else 0
  | none => 0
def valK (l : List VersionR) (key time : Int) : Bool := decide (0 ≤ verI l key time)
theorem val_none {l : List VersionR} {key time : Int} (h : verI l key time = -1) : valV l key time = 0 ∧ valK l key time = false := by
  unfold valV valK
  rw [h]
  constructor
  · split <;> simp
  · simp
theorem val_some {l : List VersionR} {key time : Int} {j : Nat} {x : VersionR} (h : verI l key time = j) (hx : l[j]? = some x) : valV l key time = x.a2 ∧ valK l key time = true := by
  unfold valV valK
  rw [h]
  constructor
  · simp [hx]
  · simp
theorem ver_bdI (l : List VersionR) (key time : Int) : verI l key time = -1 ∨ ∃ (j : Nat) (x : VersionR), verI l key time = j ∧ l[j]? = some x ∧ j < l.length := by
  have h := last_bd (pVer key time) l l.length
  by_cases h0 : verI l key time = -1
  · exact .inl h0
  · right
    have h1 : -1 ≤ verI l key time := h.1
    have h2 : verI l key time < l.length := h.2
    obtain ⟨j, hj⟩ := Int.eq_ofNat_of_zero_le (show 0 ≤ verI l key time by omega)
    have hjl : j < l.length := by omega
    exact ⟨j, l[j], hj, List.getElem?_eq_getElem hjl, hjl⟩
def leV (key time : Int) (x : VersionR) : Bool := decide (cmp2L x.a0 x.a1 key time ≤ 0)
theorem cmp2_le (a b d e : Int) : cmp2L a b d e ≤ 0 ↔ a < d ∨ (a = d ∧ b ≤ e) := by
  unfold cmp2L cmpI
  (repeat' split) <;> omega
theorem leV_iff (key time : Int) (x : VersionR) : leV key time x = true ↔ x.a0 < key ∨ (x.a0 = key ∧ x.a1 ≤ time) := by
  unfold leV; rw [decide_eq_true_eq, cmp2_le]
theorem leV_mono {l : List VersionR} (hv : vVers l = true) (key time : Int) : ∀ (i j : Nat) (x y : VersionR), i ≤ j → l[i]? = some x → l[j]? = some y → leV key time y = true → leV key time x = true := by
  intro i j x y hij hx hy h
  rw [leV_iff] at h ⊢
  rcases Nat.lt_or_eq_of_le hij with hlt | rfl
  · have := pw_get (ver_pw hv) hlt hx hy
    unfold cmpVer at this
    rw [cmp2_neg] at this
    omega
  · rw [hx] at hy
    injection hy with hy
    subst hy
    exact h
/-- What the halving finds. -/
theorem verI_cut {l : List VersionR} (hv : vVers l = true) (key time : Int) : (cutN (leV key time) l = 0 → verI l key time = -1) ∧
    ∀ j x, cutN (leV key time) l = j + 1 → l[j]? = some x → (x.a0 ≠ key → verI l key time = -1) ∧ (x.a0 = key → verI l key time = j) := by
  have hge : ∀ (i : Nat) (y : VersionR), cutN (leV key time) l ≤ i → l[i]? = some y → pVer key time y = false := by
    intro i y hi hy
    have := cutN_ge (leV_mono hv key time) hi hy
    rw [Bool.eq_false_iff] at this ⊢
    intro h
    apply this
    rw [leV_iff]
    unfold pVer at h
    rw [decide_eq_true_eq] at h
    exact .inr h
  constructor
  · intro h0
    exact last_none (fun i y _ hy => hge i y (by omega) hy)
  · intro j x hj hx
    have hjl : j < l.length := (List.getElem?_eq_some_iff.1 hx).1
    have hle := cutN_lt (p := leV key time) (l := l) (i := j) (by omega) hx
    rw [leV_iff] at hle
    constructor
    · intro hne
      refine last_none (fun i y hi hy => ?_)
      by_cases hij : i ≤ j
      · rw [Bool.eq_false_iff]
        intro h
        unfold pVer at h
        rw [decide_eq_true_eq] at h
        rcases Nat.lt_or_eq_of_le hij with hlt | rfl
        · have := pw_get (ver_pw hv) hlt hy hx
          unfold cmpVer at this
          rw [cmp2_neg] at this
          omega
        · rw [hx] at hy
          injection hy with hy
          subst hy
          exact hne h.1
      · exact hge i y (by omega) hy
    · intro he
      refine last_eq hjl hx (by unfold pVer; exact decide_eq_true ⟨he, by omega⟩) (fun i y h1 _ hy => hge i y (by omega) hy)
set_option maxRecDepth 100000 in
set_option maxHeartbeats 2000000 in
theorem specVAt_any (A : Option Addr) (c : Nat) (l : List VersionR) (key time : Int) (w : World) (ha : Row VersionR.enc 3 w A l) :
    Calls Try.prog 77 #[.slice A l.length c, .int .i64 key, .int .i64 time] w fun e w' => e = .returned (.int .i64 (verI l key time)) ∧ w = w' := by
  have hal := ha.1
  have HI := Lib.hid (show verI l key time = lastIx (pVer key time) l l.length from rfl)
  go_enter Try.func77, Try.ntmps77
  go_wp2
  go_loop [7, 8] (fun a i => ∃ k : Nat, k ≤ l.length ∧ i = .int .i64 k ∧ a = .int .i64 (lastIx (pVer key time) l k)) (fun _ i => l.length - (intOf i).toNat)
  case atStart => exact ⟨0, Nat.zero_le _, rfl, rfl⟩
  case round =>
    obtain ⟨k, hk, rfl, rfl⟩ := hrel
    by_cases hlt : k < l.length
    · obtain ⟨b, off, rfl, hblt, q0, q1, q2⟩ := ha.atVersion hlt
      have hx := List.getElem?_eq_getElem hlt
      generalize l[k] = x at *
      have Hx := Lib.hid hx
      clear hx ha
      by_cases h1 : x.a0 = key
      · have e1 : (x.a0 == key) = true := by simp [h1]
        by_cases h2 : x.a1 ≤ time
        · have Hn := Lib.hid (last_hit (p := pVer key time) Hx.out (by unfold pVer; exact decide_eq_true ⟨h1, h2⟩))
          clear h1
          go_wp2
          go_round
          case rel => exact ⟨k + 1, by omega, by go_num, by rw [Hn.out]⟩
          case measure => simp [intOf]; omega
        · have Hn := Lib.hid (last_miss (p := pVer key time) Hx.out (by unfold pVer; exact decide_eq_false (fun h => h2 h.2)))
          have h2' : time < x.a1 := by omega
          clear h1 h2
          go_wp2
          go_round
          case rel => exact ⟨k + 1, by omega, by go_num, by rw [Hn.out]⟩
          case measure => simp [intOf]; omega
      · have e1 : (x.a0 == key) = false := by simp [h1]
        have Hn := Lib.hid (last_miss (p := pVer key time) Hx.out (by unfold pVer; exact decide_eq_false (fun h => h1 h.1)))
        clear h1
        go_wp2
        go_round
        case rel => exact ⟨k + 1, by omega, by go_num, by rw [Hn.out]⟩
        case measure => simp [intOf]; omega
    · obtain rfl : k = l.length := by omega
      go_wp2
      all_goals go_returns
      all_goals exact ⟨ret_int HI.out.symm, rfl⟩
def verF (l : List VersionR) (key time : Int) : Int := if vVers l = true then valV l key time else 0
def verK (l : List VersionR) (key time : Int) : Bool := if vVers l = true then valK l key time else false
theorem ret_ib {a b : Int} {p q : Bool} (h : a = b) (h' : p = q) : Ending.returned (.tuple #[.int .i64 a, .bool p]) = .returned (.tuple #[.int .i64 b, .bool q]) := by rw [h, h']
set_option maxRecDepth 100000 in
set_option maxHeartbeats 2000000 in
theorem specVer_any (A : Option Addr) (c : Nat) (l : List VersionR) (key time : Int) (w : World) (ha : Row VersionR.enc 3 w A l) :
    Calls Try.prog 34 #[.slice A l.length c, .int .i64 key, .int .i64 time] w fun e w' => e = .returned (.tuple #[.int .i64 (verF l key time), .bool (verK l key time)]) ∧ Below w.heap.size w w' := by
  have hal := ha.1
  rcases Bool.eq_false_or_eq_true (vVers l) with hv | hv
  · have HF := Lib.hid (show verF l key time = valV l key time ∧ verK l key time = valK l key time by unfold verF verK; rw [hv]; simp)
    rcases ver_bdI l key time with hn | ⟨j, x, hn, hx, hj⟩
    · have HN := Lib.hid (val_none hn)
      have Hn := Lib.hid hn
      have Hv := Lib.hid hv
      clear hn hv
      go_enter Try.func34, Try.ntmps34
      go_wp2_with fail
      refine (specVers_any A c l w ha).mono ?_
      rintro e w1 ⟨rfl, hb1⟩
      rw [Hv.out]
      go_wp2_with fail
      refine (specVAt_any A c l key time _ (ha.keep hb1)).mono ?_
      rintro e w2 ⟨rfl, rfl⟩
      rw [Hn.out]
      go_wp2
      all_goals go_returns
      all_goals exact ⟨ret_ib (by rw [HF.out.1, HN.out.1]) (by rw [HF.out.2, HN.out.2]), hb1⟩
    · have HN := Lib.hid (val_some hn hx)
      have Hn := Lib.hid hn
      have Hv := Lib.hid hv
      have Hx := Lib.hid hx
      clear hn hv hx
      go_enter Try.func34, Try.ntmps34
      go_wp2_with fail
      refine (specVers_any A c l w ha).mono ?_
      rintro e w1 ⟨rfl, hb1⟩
      rw [Hv.out]
      obtain ⟨b, off, rfl, hblt, q0, q1, q2⟩ := (ha.keep hb1).atVersion hj
      have hxl : l[j] = x := (List.getElem?_eq_some_iff.1 Hx.out).2
      rw [hxl] at q0 q1 q2
      go_wp2_with fail
      refine (specVAt_any _ c l key time _ (ha.keep hb1)).mono ?_
      rintro e w2 ⟨rfl, rfl⟩
      rw [Hn.out]
      clear hxl
      go_wp2_with fail
      refine (specVAt_any _ c l key time _ (ha.keep hb1)).mono ?_
      rintro e w2 ⟨rfl, rfl⟩
      rw [Hn.out]
      have j0 : (0 : Int) ≤ (j : Int) := by omega
      have j1 : (j : Int) < (l.length : Int) := by omega
      go_wp2
      all_goals go_returns
      all_goals exact ⟨ret_ib (by rw [HF.out.1, HN.out.1]) (by rw [HF.out.2, HN.out.2]), hb1⟩
  · have HF := Lib.hid (show verF l key time = 0 ∧ verK l key time = false by unfold verF verK; rw [hv]; simp)
    have Hv := Lib.hid hv
    clear hv
    go_enter Try.func34, Try.ntmps34
    go_wp2_with fail
    refine (specVers_any A c l w ha).mono ?_
    rintro e w1 ⟨rfl, hb1⟩
    rw [Hv.out]
    go_wp2
    all_goals go_returns
    all_goals exact ⟨ret_ib (by rw [HF.out.1]) (by rw [HF.out.2]), hb1⟩
end Go.Proofs.Ytjjjlpnbniofjab
