import Derived.Test.YtehedhkadjidpabMmD
namespace Go.Proofs.Ytehedhkadjidpab
open Go.RowKit
set_option maxHeartbeats 1000000 in
theorem specIsIn_any (A : Option Addr) (c : Nat) (l : List Int) (f : Int) (w : World) (ha : Row IntR.enc 1 w A l) :
    Calls Try.prog 79 #[.slice A l.length c, .int .i64 f] w fun e w' => e = .returned (.bool (decide (f ∈ l))) ∧ w = w' := by
  have hal := ha.1
  go_enter Try.func79, Try.ntmps79
  go_wp2
  go_loop [5] (fun i => ∃ k : Nat, k ≤ l.length ∧ i = .int .i64 k ∧ decide (f ∈ l.drop k) = decide (f ∈ l)) (fun i => l.length - (intOf i).toNat)
  case atStart => exact ⟨0, Nat.zero_le _, rfl, rfl⟩
  case round =>
    obtain ⟨k, hk, rfl, he⟩ := hrel
    have He := Lib.hid he
    clear he
    by_cases hlt : k < l.length
    · obtain ⟨b, off, rfl, hblt, q0⟩ := ha.atInt hlt
      have hd : l.drop k = l[k] :: l.drop (k + 1) := List.drop_eq_getElem_cons hlt
      generalize l[k] = x at *
      have Hd := Lib.hid hd
      clear hd ha
      by_cases h1 : x = f
      · have Hn := Lib.hid (show true = decide (f ∈ l) by rw [← He.out, Hd.out, h1]; simp)
        go_wp2
        all_goals go_returns
        all_goals exact ⟨ret_bool Hn.out, rfl⟩
      · have Hn := Lib.hid (show decide (f ∈ l.drop (k + 1)) = decide (f ∈ l) by rw [← He.out, Hd.out]; simp [Ne.symm h1])
        have h1' : (x == f) = false := by simp [h1]
        go_wp2
        go_round
        case rel => exact ⟨k + 1, by omega, by go_num, Hn.out⟩
        case measure => simp [intOf]; omega
    · have Hn := Lib.hid (show false = decide (f ∈ l) by rw [← He.out, List.drop_of_length_le (by omega)]; rfl)
      go_wp2
      all_goals go_returns
      all_goals exact ⟨ret_bool Hn.out, rfl⟩
def mn (a b : Int) : Int := if b < a then b else a
def foldM (f : Int → Int → Int) : List InputR → Int
  | [] => 0
  | x :: l => l.foldl (fun m y => f m y.a0) x.a0
theorem foldM_next (f : Int → Int → Int) (x0 : InputR) {l : List InputR} {k : Nat} {x : InputR} (hx : l[k]? = some x) : foldM f (x0 :: l.take (k + 1)) = f (foldM f (x0 :: l.take k)) x.a0 := by
  rw [List.take_add_one, hx]; show List.foldl _ _ (l.take k ++ [x]) = f (List.foldl _ _ _) _; rw [List.foldl_append]; rfl
/-- The watermark of valid inputs. -/
def mmV (l : List InputR) (now idle : Int) : Int := if (l.filter (nidB now idle)).length = 0 then foldM mx l else foldM mn (l.filter (nidB now idle))
def mmF (l : List InputR) (now idle : Int) : Int := if vIns l = true ∧ clk now idle then mmV l now idle else -2
def nxF (old : Int) (l : List InputR) (now idle : Int) : Int := if (-1 ≤ old ∧ old ≤ 999) ∧ vIns l = true ∧ clk now idle then mx old (mmV l now idle) else -2
def foldA (f : Int → Int → Int) (a : Int) (l : List InputR) : Int := l.foldl (fun m y => f m y.a0) a
theorem foldA_next (f : Int → Int → Int) (a : Int) {l : List InputR} {k : Nat} {x : InputR} (hx : l[k]? = some x) : foldA f a (l.take (k + 1)) = f (foldA f a (l.take k)) x.a0 := by
  unfold foldA; rw [List.take_add_one, hx, List.foldl_append]; rfl
theorem foldA_app (f : Int → Int → Int) (a : Int) (l : List InputR) (x : InputR) : foldA f a (l ++ [x]) = f (foldA f a l) x.a0 := by unfold foldA; rw [List.foldl_append]; rfl
theorem foldA_mx {l : List InputR} (h : ∀ x ∈ l, -1 ≤ x.a0) (hl : l ≠ []) : foldA mx (-1) l = foldM mx l := by
  rcases l with _ | ⟨x, l⟩
  · exact absurd rfl hl
  · have hx := h x (by simp)
    unfold foldA foldM
    rw [List.foldl_cons]
    congr 1
    unfold mx; split <;> omega
theorem foldA_mn {l : List InputR} (h : ∀ x ∈ l, x.a0 ≤ 999) (hl : l ≠ []) : foldA mn 999 l = foldM mn l := by
  rcases l with _ | ⟨x, l⟩
  · exact absurd rfl hl
  · have hx := h x (by simp)
    unfold foldA foldM
    rw [List.foldl_cons]
    congr 1
    unfold mn; split <;> omega
theorem idxs_filter {α : Type} (p : α → Bool) : ∀ (l : List α) (i : Nat), (idxs p l i).length = (l.filter p).length
  | [], i => rfl
  | x :: l, i => by simp only [idxs, List.filter_cons]; split <;> simp [idxs_filter p l (i + 1)]
theorem idxs_nid (now idle : Int) (l : List InputR) : (idxs (idleB now idle) l 0).length + (l.filter (nidB now idle)).length = l.length := by
  rw [idxs_filter]
  induction l with
  | nil => rfl
  | cons x l ih =>
    simp only [List.filter_cons, nidB]
    rcases Bool.eq_false_or_eq_true (idleB now idle x) with h | h <;> simp [h, nidB] at ih ⊢ <;> omega
theorem idxs_at {p : InputR → Bool} : ∀ {l : List InputR} {k : Nat} {x : InputR} (i : Nat), l[k]? = some x → (((i + k : Nat) : Int) ∈ idxs p l i ↔ p x = true)
  | [], k, x, i, hx => by simp at hx
  | y :: l, 0, x, i, hx => by
    simp at hx; subst hx
    have hno : ∀ (l : List InputR) (j : Nat), i < j → ((i : Nat) : Int) ∉ idxs p l j := by
      intro l
      induction l with
      | nil => intro j _; simp [idxs]
      | cons z l ih => intro j hj; simp only [idxs]; split
                       · simp only [List.mem_cons, not_or]; exact ⟨by omega, ih (j + 1) (by omega)⟩
                       · exact ih (j + 1) (by omega)
    simp only [idxs, Nat.add_zero]
    split
    · rename_i h; simp [h]
    · rename_i h; constructor
      · intro h2; exact absurd h2 (hno l (i + 1) (by omega))
      · intro h2; exact absurd h2 h
  | y :: l, k + 1, x, i, hx => by
    have ih := idxs_at (p := p) (l := l) (k := k) (x := x) (i + 1) (by simpa using hx)
    have e : i + 1 + k = i + (k + 1) := by omega
    rw [e] at ih
    rw [← ih]
    simp only [idxs]
    split
    · simp only [List.mem_cons]; constructor
      · rintro (h | h)
        · omega
        · exact h
      · exact .inr
    · exact Iff.rfl
theorem idle_dec {now idle : Int} {l : List InputR} {k : Nat} {x : InputR} (hx : l[k]? = some x) : decide ((k : Int) ∈ idxs (idleB now idle) l 0) = idleB now idle x := by
  have h := idxs_at (p := idleB now idle) (l := l) (k := k) (x := x) 0 hx
  rw [Nat.zero_add] at h
  rw [Bool.eq_iff_iff, decide_eq_true_eq]; exact h
set_option maxHeartbeats 400000 in
theorem mmMax_any (a b : Int) (w : World) : Calls Try.prog 58 #[.int .i64 a, .int .i64 b] w fun e w' => e = .returned (.int .i64 (mx a b)) ∧ w = w' := by
  go_enter Try.func58, Try.ntmps58
  go_wp2
  all_goals go_returns
  all_goals refine ⟨ret_int ?_, rfl⟩
  all_goals (unfold mx; first | rfl | ((repeat' split) <;> omega))
set_option maxHeartbeats 400000 in
theorem mmMin_any (a b : Int) (w : World) : Calls Try.prog 59 #[.int .i64 a, .int .i64 b] w fun e w' => e = .returned (.int .i64 (mn a b)) ∧ w = w' := by
  go_enter Try.func59, Try.ntmps59
  go_wp2
  all_goals go_returns
  all_goals refine ⟨ret_int ?_, rfl⟩
  all_goals (unfold mn; first | rfl | ((repeat' split) <;> omega))
set_option maxRecDepth 100000 in
set_option maxHeartbeats 2000000 in
theorem foldMax_any (A : Option Addr) (c : Nat) (x0 : InputR) (tl : List InputR) (w : World) (ha : Row InputR.enc 2 w A (x0 :: tl)) (hcap : tl.length + 1 ≤ c) :
    Calls Try.prog 57 #[.slice A (tl.length + 1) c, .func (.func 58) #[] #[]] w fun e w' => e = .returned (.int .i64 (foldM mx (x0 :: tl))) ∧ Below w.heap.size w w' := by
  have hal := ha.1
  simp only [List.length_cons] at hal
  obtain ⟨b, off, hA, hblt, q0, q1⟩ := ha.atInput (i := 0) (by simp)
  simp only [Nat.zero_mul, Nat.add_zero, List.getElem_cons_zero] at q0 q1
  have htl : ∀ k (hk : k < tl.length), w.cell? ⟨b, off + 2 + k * 2, none⟩ = some (.int .i64 (tl[k]'hk).a0) ∧ w.cell? ⟨b, off + 2 + k * 2 + 1, none⟩ = some (.int .i64 (tl[k]'hk).a1) := fun k hk => by
    obtain ⟨b', off', hA', _, r0, r1⟩ := ha.atInput (i := k + 1) (by simp; omega)
    rw [hA] at hA'
    injection hA' with hA'; injection hA' with e1 e2; subst e1 e2
    simp only [List.getElem_cons_succ] at r0 r1
    exact ⟨by rw [show off + 2 + k * 2 = off + (k + 1) * 2 by omega]; exact r0, by rw [show off + 2 + k * 2 + 1 = off + (k + 1) * 2 + 1 by omega]; exact r1⟩
  have Htl := Lib.hid htl
  clear htl ha
  subst hA
  have p1 : (1 : Int) ≤ (tl.length : Int) + 1 := by omega
  have p2 : (0 : Int) < (tl.length : Int) + 1 := by omega
  have p3 : (tl.length : Int) + 1 ≤ (c : Int) := by omega
  have p4 : 0 < tl.length + 1 := by omega
  by_cases hc1 : c = 1
  · have h0 : tl.length = 0 := by omega
    obtain rfl : tl = [] := List.eq_nil_of_length_eq_zero h0
    subst hc1
    go_enter Try.func57, Try.ntmps57
    go_wp2
    go_rounds 1
    all_goals go_returns
    all_goals exact ⟨rfl, by go_grown⟩
  · go_enter Try.func57, Try.ntmps57
    go_wp2
    go_loopw [5, 15] (fun v i wr => ∃ k : Nat, k ≤ tl.length ∧ i = .int .i64 k ∧ v = .int .i64 (foldM mx (x0 :: tl.take k)) ∧ Below w.heap.size w wr) (fun _ i _ => tl.length - (intOf i).toNat)
    case atStart => exact ⟨0, Nat.zero_le _, rfl, rfl, Below.refl _ _⟩
    case round =>
      obtain ⟨k, hk, rfl, rfl, hbw⟩ := hrel
      by_cases hlt : k < tl.length
      · obtain ⟨r0, r1⟩ := Htl.out k hlt
        have hx : tl[k]? = some tl[k] := List.getElem?_eq_getElem hlt
        have hn := foldM_next mx x0 hx
        generalize tl[k] = x at *
        generalize foldM mx (x0 :: tl.take k) = T at *
        have Hn := Lib.hid hn
        have s0 := (hbw.cell (p := ⟨b, off + 2 + k * 2, none⟩) hblt).trans r0
        have s1 := (hbw.cell (p := ⟨b, off + 2 + k * 2 + 1, none⟩) hblt).trans r1
        have hbw1 : Below w.heap.size w (wr.alloc (.cells #[.int .i64 x.a0, .int .i64 x.a1] 33)) := hbw.alloc hbw.size _
        clear hn hx r0 r1 q0 q1
        go_wp2_with fail
        refine (mmMax_any T x.a0 _).mono ?_
        rintro e w1 ⟨rfl, rfl⟩
        go_wp2
        go_roundw
        case rel => exact ⟨k + 1, by omega, by go_num, by rw [Hn.out], hbw1⟩
        case measure => simp [intOf]; omega
      · have hkl : tl.take k = tl := List.take_of_length_le (by omega)
        rw [hkl]
        clear hkl
        go_wp2
        all_goals go_returns
        all_goals exact ⟨rfl, hbw⟩
set_option maxRecDepth 100000 in
set_option maxHeartbeats 2000000 in
theorem foldMin_any (A : Option Addr) (c : Nat) (x0 : InputR) (tl : List InputR) (w : World) (ha : Row InputR.enc 2 w A (x0 :: tl)) (hcap : tl.length + 1 ≤ c) :
    Calls Try.prog 57 #[.slice A (tl.length + 1) c, .func (.func 59) #[] #[]] w fun e w' => e = .returned (.int .i64 (foldM mn (x0 :: tl))) ∧ Below w.heap.size w w' := by
  have hal := ha.1
  simp only [List.length_cons] at hal
  obtain ⟨b, off, hA, hblt, q0, q1⟩ := ha.atInput (i := 0) (by simp)
  simp only [Nat.zero_mul, Nat.add_zero, List.getElem_cons_zero] at q0 q1
  have htl : ∀ k (hk : k < tl.length), w.cell? ⟨b, off + 2 + k * 2, none⟩ = some (.int .i64 (tl[k]'hk).a0) ∧ w.cell? ⟨b, off + 2 + k * 2 + 1, none⟩ = some (.int .i64 (tl[k]'hk).a1) := fun k hk => by
    obtain ⟨b', off', hA', _, r0, r1⟩ := ha.atInput (i := k + 1) (by simp; omega)
    rw [hA] at hA'
    injection hA' with hA'; injection hA' with e1 e2; subst e1 e2
    simp only [List.getElem_cons_succ] at r0 r1
    exact ⟨by rw [show off + 2 + k * 2 = off + (k + 1) * 2 by omega]; exact r0, by rw [show off + 2 + k * 2 + 1 = off + (k + 1) * 2 + 1 by omega]; exact r1⟩
  have Htl := Lib.hid htl
  clear htl ha
  subst hA
  have p1 : (1 : Int) ≤ (tl.length : Int) + 1 := by omega
  have p2 : (0 : Int) < (tl.length : Int) + 1 := by omega
  have p3 : (tl.length : Int) + 1 ≤ (c : Int) := by omega
  have p4 : 0 < tl.length + 1 := by omega
  by_cases hc1 : c = 1
  · have h0 : tl.length = 0 := by omega
    obtain rfl : tl = [] := List.eq_nil_of_length_eq_zero h0
    subst hc1
    go_enter Try.func57, Try.ntmps57
    go_wp2
    go_rounds 1
    all_goals go_returns
    all_goals exact ⟨rfl, by go_grown⟩
  · go_enter Try.func57, Try.ntmps57
    go_wp2
    go_loopw [5, 15] (fun v i wr => ∃ k : Nat, k ≤ tl.length ∧ i = .int .i64 k ∧ v = .int .i64 (foldM mn (x0 :: tl.take k)) ∧ Below w.heap.size w wr) (fun _ i _ => tl.length - (intOf i).toNat)
    case atStart => exact ⟨0, Nat.zero_le _, rfl, rfl, Below.refl _ _⟩
    case round =>
      obtain ⟨k, hk, rfl, rfl, hbw⟩ := hrel
      by_cases hlt : k < tl.length
      · obtain ⟨r0, r1⟩ := Htl.out k hlt
        have hx : tl[k]? = some tl[k] := List.getElem?_eq_getElem hlt
        have hn := foldM_next mn x0 hx
        generalize tl[k] = x at *
        generalize foldM mn (x0 :: tl.take k) = T at *
        have Hn := Lib.hid hn
        have s0 := (hbw.cell (p := ⟨b, off + 2 + k * 2, none⟩) hblt).trans r0
        have s1 := (hbw.cell (p := ⟨b, off + 2 + k * 2 + 1, none⟩) hblt).trans r1
        have hbw1 : Below w.heap.size w (wr.alloc (.cells #[.int .i64 x.a0, .int .i64 x.a1] 33)) := hbw.alloc hbw.size _
        clear hn hx r0 r1 q0 q1
        go_wp2_with fail
        refine (mmMin_any T x.a0 _).mono ?_
        rintro e w1 ⟨rfl, rfl⟩
        go_wp2
        go_roundw
        case rel => exact ⟨k + 1, by omega, by go_num, by rw [Hn.out], hbw1⟩
        case measure => simp [intOf]; omega
      · have hkl : tl.take k = tl := List.take_of_length_le (by omega)
        rw [hkl]
        clear hkl
        go_wp2
        all_goals go_returns
        all_goals exact ⟨rfl, hbw⟩
end Go.Proofs.Ytehedhkadjidpab
