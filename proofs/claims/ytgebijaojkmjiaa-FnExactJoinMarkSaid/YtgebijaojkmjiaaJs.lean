import Derived.Test.YtgebijaojkmjiaaTyEvent
import Derived.Test.YtgebijaojkmjiaaPur
namespace Go.Proofs.Ytgebijaojkmjiaa
open Go.RowKit
/-- The three cells of a struct that lies in a block of its own. -/
def Bx (w : World) (g : Nat) (a b c : Value) : Prop := w.cell? ⟨g, 0, none⟩ = some a ∧ w.cell? ⟨g, 1, none⟩ = some b ∧ w.cell? ⟨g, 2, none⟩ = some c ∧ (∀ o, w.frozen? ⟨g, o, none⟩ = false) ∧ g < w.heap.size
theorem Bx.keep {w w' : World} {g : Nat} {a b c : Value} (h : Bx w g a b c) (hb : Below w.heap.size w w') : Bx w' g a b c :=
  ⟨(hb.cell (p := ⟨g, 0, none⟩) h.2.2.2.2).trans h.1, (hb.cell (p := ⟨g, 1, none⟩) h.2.2.2.2).trans h.2.1, (hb.cell (p := ⟨g, 2, none⟩) h.2.2.2.2).trans h.2.2.1, fun o => (hb.frozen (p := ⟨g, o, none⟩) h.2.2.2.2).trans (h.2.2.2.1 o), Nat.lt_of_lt_of_le h.2.2.2.2 hb.size⟩
theorem Bx.far {w w' : World} {g : Nat} {a b c : Value} {row : Option Nat} (h : Bx w g a b c) (hg : w.grownBy w' row) (hne : some g ≠ row) : Bx w' g a b c := by
  have hk := hg.block g h.2.2.2.2 hne
  refine ⟨(World.cell?_of_block hk).trans h.1, (World.cell?_of_block hk).trans h.2.1, (World.cell?_of_block hk).trans h.2.2.1, fun o => (World.frozen?_of_block hk).trans (h.2.2.2.1 o), Nat.lt_of_lt_of_le h.2.2.2.2 hg.size⟩
theorem Bx.made (w : World) (a b c : Value) (T : Nat) : Bx (w.alloc (.cells #[a, b, c] T)) w.heap.size a b c := ⟨by simp [go_sem], by simp [go_sem], by simp [go_sem], fun o => by simp [go_sem], by simp⟩
theorem set_grown (w : World) (a : Addr) (u : Value) : w.grownBy (w.setCell a u) (some a.block) :=
  ⟨rfl, rfl, rfl, by simp [World.setCell], fun i _ hne => Below.heap_setCell w a u i (fun e => hne (by rw [e]))⟩
theorem Bx.set_far {w : World} {g : Nat} {a b c : Value} (h : Bx w g a b c) {p : Addr} (hp : g ≠ p.block) (u : Value) : Bx (w.setCell p u) g a b c := h.far (set_grown w p u) (fun e => hp (by injection e))
theorem Bx.set0 {w : World} {g : Nat} {a b c : Value} (h : Bx w g a b c) (u : Value) : Bx (w.setCell ⟨g, 0, none⟩ u) g u b c := by
  obtain ⟨h0, h1, h2, hf, hl⟩ := h
  exact ⟨by simp [go_sem, h0], by simp [go_sem, h1], by simp [go_sem, h2], fun o => by simp [go_sem, hf o], by simp [go_sem, hl]⟩
theorem Bx.set1 {w : World} {g : Nat} {a b c : Value} (h : Bx w g a b c) (u : Value) : Bx (w.setCell ⟨g, 1, none⟩ u) g a u c := by
  obtain ⟨h0, h1, h2, hf, hl⟩ := h
  exact ⟨by simp [go_sem, h0], by simp [go_sem, h1], by simp [go_sem, h2], fun o => by simp [go_sem, hf o], by simp [go_sem, hl]⟩
theorem Bx.set2 {w : World} {g : Nat} {a b c : Value} (h : Bx w g a b c) (u : Value) : Bx (w.setCell ⟨g, 2, none⟩ u) g a b u := by
  obtain ⟨h0, h1, h2, hf, hl⟩ := h
  exact ⟨by simp [go_sem, h0], by simp [go_sem, h1], by simp [go_sem, h2], fun o => by simp [go_sem, hf o], by simp [go_sem, hl]⟩
theorem Own.set {α : Type} {enc : α → List Value} {k T : Nat} {w : World} {B : Nat} {v : Value} {l : List α} (h : Own enc k T w B v l) {p : Addr} (hne : ∀ g, v.ownBlock = some g → g ≠ p.block) (u : Value) : Own enc k T (w.setCell p u) B v l := by
  refine h.kept (set_grown w p u) ?_
  rcases hv : v.ownBlock with _ | g
  · exact .inl rfl
  · exact .inr (fun e => hne g hv (by injection e))
/-- A struct of two slices of the call's own, in blocks of their own, and a number. -/
def JsOwn (w : World) (l r : List EventR) (A : Option Addr) (c : Nat) (B : Option Addr) (d : Nat) (w' : World) : Prop :=
  Own EventR.enc 3 79 w' w.heap.size (.slice A l.length c) l ∧ Own EventR.enc 3 79 w' w.heap.size (.slice B r.length d) r ∧
    (∀ g g', Value.ownBlock (.slice A l.length c) = some g → Value.ownBlock (.slice B r.length d) = some g' → g ≠ g') ∧ Below w.heap.size w w'
def JsPost (w : World) (l r : List EventR) (m : Int) (e : Ending) (w' : World) : Prop :=
  ∃ A c B d, e = .returned (.agg #[.slice A l.length c, .slice B r.length d, .int .i64 m]) ∧ JsOwn w l r A c B d w'
def JsBPost (w : World) (l r : List EventR) (m : Int) (k : Bool) (e : Ending) (w' : World) : Prop :=
  ∃ A c B d, e = .returned (.tuple #[.agg #[.slice A l.length c, .slice B r.length d, .int .i64 m], .bool k]) ∧ JsOwn w l r A c B d w'
set_option maxHeartbeats 1000000 in
theorem szJoinState_ok (A : Option Addr) (n c : Nat) (B : Option Addr) (m d : Nat) (y : Int) (x : Int) (w : World) (h : (n : Int) + (m : Int) ≤ x) (hx : x ≤ 1048576) :
    Calls Try.prog 53 #[.agg #[.slice A n c, .slice B m d, .int .i64 y], .int .i64 x] w fun e w' => e = .returned (.int .i64 (x - (n : Int) - (m : Int))) ∧ Below w.heap.size w w' := by
  go_enter Try.func53, Try.ntmps53
  go_wp2_with fail
  refine (szEventS_ok A n c x _ (by omega) hx).mono ?_
  rintro e w1 ⟨rfl, rfl⟩
  go_wp2_with fail
  refine (szEventS_ok B m d _ _ (by omega) (by omega)).mono ?_
  rintro e w1 ⟨rfl, rfl⟩
  go_wp2
  all_goals go_returns
  all_goals exact ⟨rfl, by go_grown⟩
set_option maxHeartbeats 1000000 in
theorem szJoinState_big (A : Option Addr) (n c : Nat) (B : Option Addr) (m d : Nat) (y : Int) (x : Int) (w : World) (h : x < (n : Int) + (m : Int)) (h0 : 0 ≤ x) (hx : x ≤ 1048576) (hn : n ≤ maxLen) (hm : m ≤ maxLen) :
    Calls Try.prog 53 #[.agg #[.slice A n c, .slice B m d, .int .i64 y], .int .i64 x] w fun e w' => e = .returned (.int .i64 (-1)) ∧ Below w.heap.size w w' := by
  by_cases hnx : x < (n : Int)
  · go_enter Try.func53, Try.ntmps53
    go_wp2_with fail
    refine (szEventS_big A n c x _ hnx h0 hn).mono ?_
    rintro e w1 ⟨rfl, rfl⟩
    go_wp2
    all_goals go_returns
    all_goals exact ⟨rfl, by go_grown⟩
  · go_enter Try.func53, Try.ntmps53
    go_wp2_with fail
    refine (szEventS_ok A n c x _ (by omega) hx).mono ?_
    rintro e w1 ⟨rfl, rfl⟩
    go_wp2_with fail
    refine (szEventS_big B m d _ _ (by omega) (by omega) hm).mono ?_
    rintro e w1 ⟨rfl, rfl⟩
    go_wp2
    all_goals go_returns
    all_goals exact ⟨rfl, by go_grown⟩
set_option maxHeartbeats 4000000 in
theorem toJoinState_any (A : Option Addr) (c : Nat) (l : List EventR) (B : Option Addr) (d : Nat) (r : List EventR) (m : Int) (w : World) (ha : Row EventR.enc 3 w A l) (hr : Row EventR.enc 3 w B r) :
    Calls Try.prog 55 #[.agg #[.slice A l.length c, .slice B r.length d, .int .i64 m]] w (JsPost w l r m) := by
  have x0 := Bx.made w (.slice A l.length c) (.slice B r.length d) (.int .i64 m) 70
  have x1 := Bx.made (w.alloc (.cells #[.slice A l.length c, .slice B r.length d, .int .i64 m] 70)) (.slice none 0 0) (.slice none 0 0) (.int .i64 0) 75
  have x2 := Bx.made ((w.alloc (.cells #[.slice A l.length c, .slice B r.length d, .int .i64 m] 70)).alloc (.cells #[.slice none 0 0, .slice none 0 0, .int .i64 0] 75)) (.slice none 0 0) (.slice none 0 0) (.int .i64 0) 75
  have hB : Below w.heap.size w (((w.alloc (.cells #[.slice A l.length c, .slice B r.length d, .int .i64 m] 70)).alloc (.cells #[.slice none 0 0, .slice none 0 0, .int .i64 0] 75)).alloc (.cells #[.slice none 0 0, .slice none 0 0, .int .i64 0] 75)) := (((Below.refl _ _).alloc (Nat.le_refl _) _).alloc (by simp) _).alloc (by simp; omega) _
  have y0 := (x0.keep ((Below.refl _ _).alloc (Nat.le_refl _) (.cells #[.slice none 0 0, .slice none 0 0, .int .i64 0] 75))).keep ((Below.refl _ _).alloc (Nat.le_refl _) (.cells #[.slice none 0 0, .slice none 0 0, .int .i64 0] 75))
  have y1 := x1.keep ((Below.refl _ _).alloc (Nat.le_refl _) (.cells #[.slice none 0 0, .slice none 0 0, .int .i64 0] 75))
  simp only [World.size_alloc] at x0 x1 x2 y0 y1
  have hz : (((w.alloc (.cells #[.slice A l.length c, .slice B r.length d, .int .i64 m] 70)).alloc (.cells #[.slice none 0 0, .slice none 0 0, .int .i64 0] 75)).alloc (.cells #[.slice none 0 0, .slice none 0 0, .int .i64 0] 75)).heap.size = w.heap.size + 3 := by simp
  clear x0 x1
  go_enter Try.func55, Try.ntmps55
  go_wp2_with fail
  generalize (((w.alloc (.cells #[.slice A l.length c, .slice B r.length d, .int .i64 m] 70)).alloc (.cells #[.slice none 0 0, .slice none 0 0, .int .i64 0] 75)).alloc (.cells #[.slice none 0 0, .slice none 0 0, .int .i64 0] 75)) = wA at *
  refine (toEventS_any A c l _ (ha.keep hB)).mono ?_
  rintro e w1 ⟨A1, c1, rfl, o1, b1⟩
  have z1 := b1.size
  have v0 := y0.keep b1
  have v1 := y1.keep b1
  have v2 := x2.keep b1
  have B1 := hB.trans (b1.mono hB.size)
  obtain ⟨p00, p01, p02, pf0, pl0⟩ := v0
  obtain ⟨p10, p11, p12, pf1, pl1⟩ := v1
  obtain ⟨p20, p21, p22, pf2, pl2⟩ := v2
  have q1 : ∀ g, Value.ownBlock (.slice A1 l.length c1) = some g → w.heap.size + 3 ≤ g := fun g hg => by have := (o1.lt g hg).1; omega
  have v0' := (y0.keep b1).set_far (p := ⟨w.heap.size + 1 + 1, 0, none⟩) (by simp; omega) (.slice A1 l.length c1)
  have v1' := (y1.keep b1).set_far (p := ⟨w.heap.size + 1 + 1, 0, none⟩) (by simp) (.slice A1 l.length c1)
  have v2' := (x2.keep b1).set0 (.slice A1 l.length c1)
  have o1' := o1.set (p := ⟨w.heap.size + 1 + 1, 0, none⟩) (fun g hg => by have := q1 g hg; simp; omega) (.slice A1 l.length c1)
  have B1' := B1.setCell (p := ⟨w.heap.size + 1 + 1, 0, none⟩) (by simp; omega) (.slice A1 l.length c1)
  have z1' : wA.heap.size ≤ (w1.setCell ⟨w.heap.size + 1 + 1, 0, none⟩ (.slice A1 l.length c1)).heap.size := by simpa [World.setCell] using z1
  clear x2 y0 y1 b1 hB ha
  go_wp2_with fail
  clear p00 p01 p02 pf0 pl0 p10 p11 p12 pf1 pl1 p20 p21 p22 pf2 pl2
  generalize (w1.setCell ⟨w.heap.size + 1 + 1, 0, none⟩ (.slice A1 l.length c1)) = u1 at *
  refine (toEventS_any B d r u1 (hr.keep B1')).mono ?_
  rintro e w2 ⟨A2, c2, rfl, o2, b2⟩
  have z2 := b2.size
  have B2 := B1'.trans (b2.mono B1'.size)
  have q2 : ∀ g, Value.ownBlock (.slice A2 r.length c2) = some g → w.heap.size + 3 ≤ g := fun g hg => by have := (o2.lt g hg).1; omega
  have hd := own_dis o1' o2
  have o1r := own_rebase (B := w.heap.size) (o1'.keep b2) (by omega)
  have o2r := own_rebase (B := w.heap.size) o2 (by omega)
  obtain ⟨p00, p01, p02, pf0, pl0⟩ := v0'.keep b2
  obtain ⟨p10, p11, p12, pf1, pl1⟩ := v1'.keep b2
  obtain ⟨p20, p21, p22, pf2, pl2⟩ := v2'.keep b2
  obtain ⟨e0, e1, e2, -, -⟩ := (((((v1'.keep b2).set_far (p := ⟨w.heap.size + 1 + 1, 1, none⟩) (by simp) (.slice A2 r.length c2)).set_far (p := ⟨w.heap.size + 1 + 1, 2, none⟩) (by simp) (.int .i64 m)).set0 (.slice A1 l.length c1)).set1 (.slice A2 r.length c2)).set2 (.int .i64 m)
  clear v0' v1' v2' b2 hr o1 o1' o2 B1' B1
  have o1f : Own EventR.enc 3 79 ((((((w2.setCell ⟨w.heap.size + 1 + 1, 1, none⟩ (.slice A2 r.length c2)).setCell ⟨w.heap.size + 1 + 1, 2, none⟩ (.int .i64 m)).setCell ⟨w.heap.size + 1, 0, none⟩ (.slice A1 l.length c1)).setCell ⟨w.heap.size + 1, 1, none⟩ (.slice A2 r.length c2)).setCell ⟨w.heap.size + 1, 2, none⟩ (.int .i64 m))) w.heap.size (.slice A1 l.length c1) l := by
    repeat (refine Own.set ?_ (fun g hg => by have := q1 g hg; simp; omega) _)
    exact o1r
  have o2f : Own EventR.enc 3 79 ((((((w2.setCell ⟨w.heap.size + 1 + 1, 1, none⟩ (.slice A2 r.length c2)).setCell ⟨w.heap.size + 1 + 1, 2, none⟩ (.int .i64 m)).setCell ⟨w.heap.size + 1, 0, none⟩ (.slice A1 l.length c1)).setCell ⟨w.heap.size + 1, 1, none⟩ (.slice A2 r.length c2)).setCell ⟨w.heap.size + 1, 2, none⟩ (.int .i64 m))) w.heap.size (.slice A2 r.length c2) r := by
    repeat (refine Own.set ?_ (fun g hg => by have := q2 g hg; simp; omega) _)
    exact o2r
  have hBf : Below w.heap.size w ((((((w2.setCell ⟨w.heap.size + 1 + 1, 1, none⟩ (.slice A2 r.length c2)).setCell ⟨w.heap.size + 1 + 1, 2, none⟩ (.int .i64 m)).setCell ⟨w.heap.size + 1, 0, none⟩ (.slice A1 l.length c1)).setCell ⟨w.heap.size + 1, 1, none⟩ (.slice A2 r.length c2)).setCell ⟨w.heap.size + 1, 2, none⟩ (.int .i64 m))) := by
    repeat (refine Below.setCell ?_ (by simp; try omega) _)
    exact B2
  have He := Lib.hid (show _ ∧ _ ∧ _ from ⟨e0, e1, e2⟩)
  clear e0 e1 e2
  go_wp2
  generalize ((((((w2.setCell ⟨w.heap.size + 1 + 1, 1, none⟩ (.slice A2 r.length c2)).setCell ⟨w.heap.size + 1 + 1, 2, none⟩ (.int .i64 m)).setCell ⟨w.heap.size + 1, 0, none⟩ (.slice A1 l.length c1)).setCell ⟨w.heap.size + 1, 1, none⟩ (.slice A2 r.length c2)).setCell ⟨w.heap.size + 1, 2, none⟩ (.int .i64 m))) = wF at *
  have e := He.out
  (try simp only [Exit.inBlock, Exit.then])
  refine bodyPost_ret (by simp [results, Try.results55, go_sem, e.1, e.2.1, e.2.2]; try rfl) rfl ?_
  exact ⟨A1, c1, A2, c2, rfl, o1f, o2f, hd, hBf⟩
set_option maxHeartbeats 4000000 in
theorem eqJoinState_same (A : Option Addr) (c : Nat) (B : Option Addr) (d : Nat) (A' : Option Addr) (c' : Nat) (B' : Option Addr) (d' : Nat) (l r : List EventR) (m : Int) (w : World) (ha : Row EventR.enc 3 w A l) (hb : Row EventR.enc 3 w B r) (ha' : Row EventR.enc 3 w A' l) (hb' : Row EventR.enc 3 w B' r) :
    Calls Try.prog 58 #[.agg #[.slice A l.length c, .slice B r.length d, .int .i64 m], .agg #[.slice A' l.length c', .slice B' r.length d', .int .i64 m]] w fun e w' => e = .returned (.bool true) ∧ Below w.heap.size w w' := by
  have x0 := Bx.made w (.slice A l.length c) (.slice B r.length d) (.int .i64 m) 75
  have x1 := Bx.made (w.alloc (.cells #[.slice A l.length c, .slice B r.length d, .int .i64 m] 75)) (.slice A' l.length c') (.slice B' r.length d') (.int .i64 m) 75
  have y0 := x0.keep ((Below.refl _ _).alloc (Nat.le_refl _) (.cells #[.slice A' l.length c', .slice B' r.length d', .int .i64 m] 75))
  have hB : Below w.heap.size w ((w.alloc (.cells #[.slice A l.length c, .slice B r.length d, .int .i64 m] 75)).alloc (.cells #[.slice A' l.length c', .slice B' r.length d', .int .i64 m] 75)) := ((Below.refl _ _).alloc (Nat.le_refl _) _).alloc (by simp) _
  simp only [World.size_alloc] at x0 x1 y0
  clear x0
  go_enter Try.func58, Try.ntmps58
  go_wp2_with fail
  generalize ((w.alloc (.cells #[.slice A l.length c, .slice B r.length d, .int .i64 m] 75)).alloc (.cells #[.slice A' l.length c', .slice B' r.length d', .int .i64 m] 75)) = wA at *
  refine (eqEventS_same A A' c c' l _ (ha.keep hB) (ha'.keep hB)).mono ?_
  rintro e w1 ⟨rfl, b1⟩
  have B1 := hB.trans (b1.mono hB.size)
  obtain ⟨p00, p01, p02, pf0, pl0⟩ := y0.keep b1
  obtain ⟨p10, p11, p12, pf1, pl1⟩ := x1.keep b1
  have v0 := y0.keep b1
  have v1 := x1.keep b1
  clear x1 y0 b1 hB pf0 pf1 p02 p12
  go_wp2_with fail
  refine (eqEventS_same B B' d d' r _ (hb.keep B1) (hb'.keep B1)).mono ?_
  rintro e w2 ⟨rfl, b2⟩
  have B2 := B1.trans (b2.mono B1.size)
  clear p00 p01 p10 p11
  obtain ⟨p00, p01, p02, pf0, pl0'⟩ := v0.keep b2
  obtain ⟨p10, p11, p12, pf1, pl1'⟩ := v1.keep b2
  clear b2 v0 v1 B1
  go_wp2
  all_goals go_returns
  all_goals exact ⟨rfl, B2⟩
def JsMark (w : World) (L0 L1 : Nat) (n m : Nat) (s0 s1 : Value) (k0 : Int) (w' : World) : Prop :=
  w'.ownsRow L0 79 3 s0 n (marks k0 (n * 3)) ∧ w'.ownsRow L1 79 3 s1 m (marks (k0 + (n : Int) * 3) (m * 3)) ∧
    ∃ wx wy, Below w.heap.size w wx ∧ wx.grownBy wy s0.ownBlock ∧ wy.grownBy w' s1.ownBlock
set_option maxHeartbeats 4000000 in
theorem markJoinState_any (A : Option Addr) (n c : Nat) (B : Option Addr) (m d : Nat) (y k0 : Int) (L0 L1 : Nat) (xs ys : List Value) (w : World) (h0 : w.ownsRow L0 79 3 (.slice A n c) n xs) (h1 : w.ownsRow L1 79 3 (.slice B m d) m ys)
    (hd : ∀ g g', Value.ownBlock (.slice A n c) = some g → Value.ownBlock (.slice B m d) = some g' → g ≠ g') (hn : n ≤ 1048576) (hm : m ≤ 1048576) (k1 : 0 ≤ k0) (k2 : k0 ≤ 900000000) :
    Calls Try.prog 59 #[.agg #[.slice A n c, .slice B m d, .int .i64 y], .int .i64 k0] w fun e w' => e = .returned (.int .i64 (k0 + (n : Int) * 3 + (m : Int) * 3)) ∧ JsMark w L0 L1 n m (.slice A n c) (.slice B m d) k0 w' := by
  have x0 := Bx.made w (.slice A n c) (.slice B m d) (.int .i64 y) 75
  have hB : Below w.heap.size w (w.alloc (.cells #[.slice A n c, .slice B m d, .int .i64 y] 75)) := (Below.refl _ _).alloc (Nat.le_refl _) _
  have h0' := ownsRow_keep h0 hB
  have h1' := ownsRow_keep h1 hB
  have hne : ∀ g, Value.ownBlock (.slice A n c) = some g → g < w.heap.size := fun g hg => (h0.lt g hg).2
  go_enter Try.func59, Try.ntmps59
  go_wp2_with fail
  generalize (w.alloc (.cells #[.slice A n c, .slice B m d, .int .i64 y] 75)) = wA at *
  refine (markEventS_any A c n k0 L0 xs _ h0' hn k1 (by omega)).mono ?_
  rintro e w1 ⟨rfl, m1, g1⟩
  obtain ⟨p00, p01, p02, pf0, pl0⟩ := x0.far g1 (fun e => by have := hne _ e.symm; omega)
  have h1'' := orow_far h1' g1 (fun g g' e1 e2 => (hd g' g e2 e1).symm)
  clear pf0 p00 x0 h0' h1'
  go_wp2_with fail
  refine (markEventS_any B d m _ L1 ys _ h1'' hm (by omega) (by omega)).mono ?_
  rintro e w2 ⟨rfl, m2, g2⟩
  have m1' := orow_far m1 g2 hd
  go_wp2
  all_goals go_returns
  all_goals exact ⟨rfl, m1', m2, _, _, hB, g1, g2⟩
set_option maxHeartbeats 4000000 in
theorem heldJoinState_any (A : Option Addr) (n c : Nat) (B : Option Addr) (m d : Nat) (y k0 : Int) (L0 L1 : Nat) (w : World) (h0 : w.ownsRow L0 79 3 (.slice A n c) n (marks k0 (n * 3))) (h1 : w.ownsRow L1 79 3 (.slice B m d) m (marks (k0 + (n : Int) * 3) (m * 3)))
    (hn : n ≤ 1048576) (hm : m ≤ 1048576) (k1 : 0 ≤ k0) (k2 : k0 ≤ 900000000) :
    Calls Try.prog 60 #[.agg #[.slice A n c, .slice B m d, .int .i64 y], .int .i64 k0] w fun e w' => e = .returned (.int .i64 (k0 + (n : Int) * 3 + (m : Int) * 3)) ∧ Below w.heap.size w w' := by
  have x0 := Bx.made w (.slice A n c) (.slice B m d) (.int .i64 y) 75
  have hB : Below w.heap.size w (w.alloc (.cells #[.slice A n c, .slice B m d, .int .i64 y] 75)) := (Below.refl _ _).alloc (Nat.le_refl _) _
  have h0' := ownsRow_keep h0 hB
  have h1' := ownsRow_keep h1 hB
  go_enter Try.func60, Try.ntmps60
  go_wp2_with fail
  generalize (w.alloc (.cells #[.slice A n c, .slice B m d, .int .i64 y] 75)) = wA at *
  refine (heldEventS_any A c n k0 L0 _ h0' hn k1 (by omega)).mono ?_
  rintro e w1 ⟨rfl, rfl⟩
  obtain ⟨p00, p01, p02, pf0, pl0⟩ := x0
  go_wp2_with fail
  refine (heldEventS_any B d m _ L1 _ h1' hm (by omega) (by omega)).mono ?_
  rintro e w2 ⟨rfl, rfl⟩
  go_wp2
  all_goals go_returns
  all_goals exact ⟨rfl, hB⟩
end Go.Proofs.Ytgebijaojkmjiaa
