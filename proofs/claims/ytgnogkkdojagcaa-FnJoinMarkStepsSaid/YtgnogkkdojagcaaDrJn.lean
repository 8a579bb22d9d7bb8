import Derived.Test.YtgnogkkdojagcaaDrIj
import Derived.Test.YtgnogkkdojagcaaOne
namespace Go.Proofs.Ytgnogkkdojagcaa
open Go.RowKit
def JnPost (w : World) (R p : Nat) (e : Ending) (w' : World) : Prop :=
  ∃ (A : Option Addr) (c : Nat) (l : List EventR) (B : Option Addr) (d : Nat) (r : List EventR) (m : Int) (p' : Nat), e = .returned (.agg #[.slice A l.length c, .slice B r.length d, .int .i64 m]) ∧ Own EventR.enc 3 42 w' w.heap.size (.slice A l.length c) l ∧ Own EventR.enc 3 42 w' w.heap.size (.slice B r.length d) r ∧ l.length ≤ 41 ∧ r.length ≤ 41 ∧ -2 ≤ m ∧ m ≤ 3001 ∧ p' ≤ p + 523 ∧ Rd w' R p' ∧ Gr w w' R
set_option maxRecDepth 100000 in
set_option maxHeartbeats 4000000 in
theorem anyJoin_any (w : World) (R p : Nat) (h : Rd w R p) (hp : p + 523 ≤ 1000000000) : Calls Try.prog 41 #[.pointer (some ⟨R, 0, none⟩)] w (JnPost w R p) := by
  have hR := rd_lt h
  have g1 := gr_refl w R
  have hr2 := h
  have b3 := heap_alloc_new w (.cells #[.slice none 0 0, .slice none 0 0, .int .i64 0] 46)
  have hr4 := rd_alloc hr2 (.cells #[.slice none 0 0, .slice none 0 0, .int .i64 0] 46)
  have g5 := gr_alloc g1 (.cells #[.slice none 0 0, .slice none 0 0, .int .i64 0] 46)
  clear hr2 g1
  have zS : (w.alloc (.cells #[.slice none 0 0, .slice none 0 0, .int .i64 0] 46)).heap.size = w.heap.size + 1 := by simp
  go_enter Try.func41, Try.ntmps41
  go_wp2_with fail
  refine (anyEvents_any _ R p hr4 (by omega)).mono ?_
  rintro e w1 ⟨A, c, l, p2, rfl, o1, l41, hp2, hr6, hg7⟩
  have zs_w1 := hg7.size
  have b8 := gr_blk hg7 b3 (by omega)
  have g9 := gr_trans g5 hg7
  have lt10 := rd_lt hr6
  have lt11 := blk_lt b8
  clear hg7 hr4 g5 b3
  go_wp2_with fail
  refine (anyEvents_any _ R p2 hr6 (by omega)).mono ?_
  rintro e w2 ⟨B, d, r, p3, rfl, o2, r41, hp3, hr12, hg13⟩
  have zs_w2 := hg13.size
  have o18 := own_gr o1 hg13 (by omega)
  clear o1
  have b14 := gr_blk hg13 b8 (by omega)
  have g15 := gr_trans g9 hg13
  have lt16 := rd_lt hr12
  have lt17 := blk_lt b14
  clear hg13 hr6 g9 b8
  have o19 := o18.keep (alloc_below _ (.cells #[.int .i64 (-1), .int .i64 3, .int .i64 8, .int .i64 15, .int .i64 30] 3))
  clear o18
  have o20 := o2.keep (alloc_below _ (.cells #[.int .i64 (-1), .int .i64 3, .int .i64 8, .int .i64 15, .int .i64 30] 3))
  clear o2
  have b21 := alloc_blk (.cells #[.int .i64 (-1), .int .i64 3, .int .i64 8, .int .i64 15, .int .i64 30] 3) b14
  have b22 := heap_alloc_new w2 (.cells #[.int .i64 (-1), .int .i64 3, .int .i64 8, .int .i64 15, .int .i64 30] 3)
  have hr23 := rd_alloc hr12 (.cells #[.int .i64 (-1), .int .i64 3, .int .i64 8, .int .i64 15, .int .i64 30] 3)
  have g24 := gr_alloc g15 (.cells #[.int .i64 (-1), .int .i64 3, .int .i64 8, .int .i64 15, .int .i64 30] 3)
  clear b14 hr12 g15
  go_wp2_with fail
  refine (oneL_any [-1, 3, 8, 15, 30] _ R (p3) 5 hr23 (by omega) (w2.heap.size) _ b22 rfl rfl (by omega) (by omega) (by omega)).mono ?_
  rintro e w3 ⟨m, m_m, rfl, hr25, hg26⟩
  have zs_w3 := hg26.size
  have o31 := own_gr o19 hg26 (by omega)
  clear o19
  have o32 := own_gr o20 hg26 (by omega)
  clear o20
  have b27 := gr_blk hg26 b21 (by omega)
  have g28 := gr_trans g24 hg26
  have lt29 := rd_lt hr25
  have lt30 := blk_lt b27
  clear hg26 hr23 g24 b21
  have m_b : -1 ≤ m ∧ m ≤ 30 := by simp at m_m; omega
  clear m_m
  clear b22
  have loA : ∀ g, Value.ownBlock (.slice A l.length c) = some g → w.heap.size < g ∧ g < w3.heap.size := fun g hg => by have := o31.lt g hg; simp at this; omega
  have loB : ∀ g, Value.ownBlock (.slice B r.length d) = some g → w.heap.size < g ∧ g < w3.heap.size := fun g hg => by have := o32.lt g hg; omega
  have o33 := o31.keep (alloc_below _ (.cells #[.slice A l.length c, .slice B r.length d, .int .i64 m] 46))
  clear o31
  have o34 := o32.keep (alloc_below _ (.cells #[.slice A l.length c, .slice B r.length d, .int .i64 m] 46))
  clear o32
  have b35 := alloc_blk (.cells #[.slice A l.length c, .slice B r.length d, .int .i64 m] 46) b27
  have b36 := heap_alloc_new w3 (.cells #[.slice A l.length c, .slice B r.length d, .int .i64 m] 46)
  have hr37 := rd_alloc hr25 (.cells #[.slice A l.length c, .slice B r.length d, .int .i64 m] 46)
  have g38 := gr_alloc g28 (.cells #[.slice A l.length c, .slice B r.length d, .int .i64 m] 46)
  clear b27 hr25 g28
  go_wp2_with fail
  refine (pick_any 20 _ R (p3 + 1) hr37 (by omega) (by omega)).mono ?_
  rintro e w4 ⟨v, rfl, v_0, v_1, -, hr39, hg40, -⟩
  have zs_w4 := hg40.size
  have o47 := own_gr o33 hg40 (by omega)
  clear o33
  have o48 := own_gr o34 hg40 (by omega)
  clear o34
  have b41 := gr_blk hg40 b35 (by omega)
  have b42 := gr_blk hg40 b36 (by omega)
  have g43 := gr_trans g38 hg40
  have lt44 := rd_lt hr39
  have lt45 := blk_lt b41
  have lt46 := blk_lt b42
  clear hg40 hr37 g38 b35 b36
  have v_2 := v_1 (by omega)
  rcases (show v = 0 ∨ v ≠ 0 by omega) with hv | hv
  · subst hv
    have o49 := o47.keep (alloc_below _ (.cells #[.int .i64 (-2), .int .i64 3000, .int .i64 3001] 3))
    clear o47
    have o50 := o48.keep (alloc_below _ (.cells #[.int .i64 (-2), .int .i64 3000, .int .i64 3001] 3))
    clear o48
    have b51 := alloc_blk (.cells #[.int .i64 (-2), .int .i64 3000, .int .i64 3001] 3) b41
    have b52 := alloc_blk (.cells #[.int .i64 (-2), .int .i64 3000, .int .i64 3001] 3) b42
    have b53 := heap_alloc_new w4 (.cells #[.int .i64 (-2), .int .i64 3000, .int .i64 3001] 3)
    have hr54 := rd_alloc hr39 (.cells #[.int .i64 (-2), .int .i64 3000, .int .i64 3001] 3)
    have g55 := gr_alloc g43 (.cells #[.int .i64 (-2), .int .i64 3000, .int .i64 3001] 3)
    clear b41 b42 hr39 g43
    go_wp2_with fail
    refine (oneL_any [-2, 3000, 3001] _ R (p3 + 1 + 1) 3 hr54 (by omega) (w4.heap.size) _ b53 rfl rfl (by omega) (by omega) (by omega)).mono ?_
    rintro e w5 ⟨m2, m2_m, rfl, hr56, hg57⟩
    have zs_w5 := hg57.size
    have o64 := own_gr o49 hg57 (by omega)
    clear o49
    have o65 := own_gr o50 hg57 (by omega)
    clear o50
    have b58 := gr_blk hg57 b51 (by omega)
    have b59 := gr_blk hg57 b52 (by omega)
    have g60 := gr_trans g55 hg57
    have lt61 := rd_lt hr56
    have lt62 := blk_lt b58
    have lt63 := blk_lt b59
    clear hg57 hr54 g55 b51 b52
    have m2_b : -2 ≤ m2 ∧ m2 ≤ 3001 := by simp at m2_m; omega
    clear m2_m
    clear b53
    have nJA : ∀ g, Value.ownBlock (.slice A l.length c) = some g → g ≠ w3.heap.size := fun g hg => by have := loA g hg; omega
    have nJB : ∀ g, Value.ownBlock (.slice B r.length d) = some g → g ≠ w3.heap.size := fun g hg => by have := loB g hg; omega
    obtain ⟨k0, k1, k2, kf, kl⟩ := blk3 b59
    have s1 := o64.set (p := ⟨w3.heap.size, 2, none⟩) nJA (.int .i64 m2)
    have s2 := o65.set (p := ⟨w3.heap.size, 2, none⟩) nJB (.int .i64 m2)
    clear o64 o65
    have b66 := blk_far (p := ⟨w3.heap.size, 2, none⟩) b58 (show w.heap.size ≠ w3.heap.size by omega) (.int .i64 m2)
    have b67 := blk_set b59 2 (.int .i64 m2)
    rw [show (#[.slice A l.length c, .slice B r.length d, .int .i64 m] : Array Value).setIfInBounds 2 (.int .i64 m2) = #[.slice A l.length c, .slice B r.length d, .int .i64 m2] from rfl] at b67
    have hr68 := rd_setCell (a := ⟨w3.heap.size, 2, none⟩) hr56 (by first | omega | (simp; omega)) (.int .i64 m2)
    have g69 := gr_setCell (p := ⟨w3.heap.size, 2, none⟩) g60 (by first | exact Nat.le_refl _ | omega | (simp; omega)) (.int .i64 m2)
    clear b58 b59 hr56 g60
    obtain ⟨q0, q1, q2, qf, ql⟩ := blk3 b67
    obtain ⟨r0, r1, r2, rf, rl⟩ := blk3 b66
    have zz := g69.size
    have nA : ∀ g, Value.ownBlock (.slice A l.length c) = some g → g ≠ w.heap.size := fun g hg => by have := loA g hg; omega
    have nB : ∀ g, Value.ownBlock (.slice B r.length d) = some g → g ≠ w.heap.size := fun g hg => by have := loB g hg; omega
    have oA := own_rebase (B := w.heap.size) s1 (by first | omega | (simp; omega) | simp)
    have oB := own_rebase (B := w.heap.size) s2 (by first | omega | (simp; omega) | simp)
    clear s1 s2 b67 b66
    go_wp2
    (try simp only [Exit.inBlock, Exit.then])
    refine bodyPost_ret (v := .agg #[.slice A l.length c, .slice B r.length d, .int .i64 m2]) (by simp [results, Try.results41, go_sem, r0, r1, r2]) rfl ?_
    refine ⟨A, c, l, B, d, r, m2, p3 + 1 + 1 + 1, rfl, ?_, ?_, l41, r41, by omega, by omega, by omega, ?_, ?_⟩
    · exact ((oA.set (p := ⟨w.heap.size, 0, none⟩) nA _).set (p := ⟨w.heap.size, 1, none⟩) nA _).set (p := ⟨w.heap.size, 2, none⟩) nA _
    · exact ((oB.set (p := ⟨w.heap.size, 0, none⟩) nB _).set (p := ⟨w.heap.size, 1, none⟩) nB _).set (p := ⟨w.heap.size, 2, none⟩) nB _
    · exact rd_setCell (a := ⟨w.heap.size, 2, none⟩) (rd_setCell (a := ⟨w.heap.size, 1, none⟩) (rd_setCell (a := ⟨w.heap.size, 0, none⟩) hr68 (by first | omega | (simp; omega)) _) (by first | omega | (simp; omega)) _) (by first | omega | (simp; omega)) _
    · exact gr_setCell (p := ⟨w.heap.size, 2, none⟩) (gr_setCell (p := ⟨w.heap.size, 1, none⟩) (gr_setCell (p := ⟨w.heap.size, 0, none⟩) g69 (Nat.le_refl _) _) (Nat.le_refl _) _) (Nat.le_refl _) _
  · have e0 : (v == 0) = false := by simp [hv]
    obtain ⟨q0, q1, q2, qf, ql⟩ := blk3 b42
    obtain ⟨r0, r1, r2, rf, rl⟩ := blk3 b41
    have zz := g43.size
    have nA : ∀ g, Value.ownBlock (.slice A l.length c) = some g → g ≠ w.heap.size := fun g hg => by have := loA g hg; omega
    have nB : ∀ g, Value.ownBlock (.slice B r.length d) = some g → g ≠ w.heap.size := fun g hg => by have := loB g hg; omega
    have oA := own_rebase (B := w.heap.size) o47 (by first | omega | (simp; omega) | simp)
    have oB := own_rebase (B := w.heap.size) o48 (by first | omega | (simp; omega) | simp)
    clear o47 o48 b42 b41
    go_wp2
    (try simp only [Exit.inBlock, Exit.then])
    refine bodyPost_ret (v := .agg #[.slice A l.length c, .slice B r.length d, .int .i64 m]) (by simp [results, Try.results41, go_sem, r0, r1, r2]) rfl ?_
    refine ⟨A, c, l, B, d, r, m, p3 + 1 + 1, rfl, ?_, ?_, l41, r41, by omega, by omega, by omega, ?_, ?_⟩
    · exact ((oA.set (p := ⟨w.heap.size, 0, none⟩) nA _).set (p := ⟨w.heap.size, 1, none⟩) nA _).set (p := ⟨w.heap.size, 2, none⟩) nA _
    · exact ((oB.set (p := ⟨w.heap.size, 0, none⟩) nB _).set (p := ⟨w.heap.size, 1, none⟩) nB _).set (p := ⟨w.heap.size, 2, none⟩) nB _
    · exact rd_setCell (a := ⟨w.heap.size, 2, none⟩) (rd_setCell (a := ⟨w.heap.size, 1, none⟩) (rd_setCell (a := ⟨w.heap.size, 0, none⟩) hr39 (by first | omega | (simp; omega)) _) (by first | omega | (simp; omega)) _) (by first | omega | (simp; omega)) _
    · exact gr_setCell (p := ⟨w.heap.size, 2, none⟩) (gr_setCell (p := ⟨w.heap.size, 1, none⟩) (gr_setCell (p := ⟨w.heap.size, 0, none⟩) g43 (Nat.le_refl _) _) (Nat.le_refl _) _) (Nat.le_refl _) _
def DrJm (w : World) (e : Ending) (w' : World) : Prop :=
  ∃ (A : Option Addr) (c : Nat) (l : List EventR) (B : Option Addr) (d : Nat) (r : List EventR) (m mark low high : Int), e = .returned (.tuple #[.agg #[.slice A l.length c, .slice B r.length d, .int .i64 m], .int .i64 mark, .int .i64 low, .int .i64 high]) ∧ Own EventR.enc 3 42 w' w.heap.size (.slice A l.length c) l ∧ Own EventR.enc 3 42 w' w.heap.size (.slice B r.length d) r ∧ l.length ≤ 41 ∧ r.length ≤ 41 ∧ -2 ≤ m ∧ m ≤ 3001 ∧ -3 ≤ mark ∧ mark ≤ 3013 ∧ -1000 ≤ low ∧ low ≤ 3 ∧ -1001 ≤ high ∧ high ≤ 1000 ∧ Below w.heap.size w w'
set_option maxRecDepth 100000 in
set_option maxHeartbeats 4000000 in
theorem drawJoinMark_any (w : World) (a : Option Addr) (len cap : Nat) (z : List Int) (h : IsRow .u8 w a len cap z) (hl : len ≤ 1048576) : Calls Try.prog 18 #[.slice a len cap] w (DrJm w) := by
  have g1 := Below.refl w.heap.size w
  have b2 := heap_alloc_new w (.cells #[.slice none 0 0, .slice none 0 0, .int .i64 0] 46)
  have g3 := g1.alloc (by have := g1.size; first | exact this | (simp; omega) | omega) (.cells #[.slice none 0 0, .slice none 0 0, .int .i64 0] 46)
  clear g1
  go_enter Try.func18, Try.ntmps18
  have ir4 := isRow_keep h g3
  have z5 : (w.alloc (.cells #[.slice none 0 0, .slice none 0 0, .int .i64 0] 46)).heap.size = w.heap.size + 1 := by simp
  have zz6 := Lib.hid z5
  clear z5
  clear h
  go_wp2_with fail
  refine (newReader_any _ a len cap z ir4 hl).mono ?_
  rintro e w1 ⟨R, rfl, hR, hrN, hbN⟩
  rw [zz6.out] at hR hbN
  have b7 := below_blk hbN b2 (by omega)
  have g8 := g3.trans (hbN.mono (by omega))
  have lt9 := rd_lt hrN
  have lt10 := blk_lt b7
  have sz11 := g8.size
  clear ir4 g3 zz6 b2 hbN
  go_wp2_with fail
  refine (anyJoin_any _ R 0 hrN (by omega)).mono ?_
  rintro e w2 ⟨A, c, l, B, d, r, m, p2, rfl, o1, o2, l41, r41, m0, m1, hp2, hr12, hg13⟩
  have zs_w2 := hg13.size
  have b14 := gr_blk hg13 b7 (by omega)
  have g15 := g8.trans (gr_of_below (B := w.heap.size) hg13 (by have := g8.size; first | exact this | (simp; omega) | omega) (by omega))
  have lt16 := rd_lt hr12
  have lt17 := blk_lt b14
  clear hg13 hrN g8 b7
  have o18 := o1.keep (alloc_below _ (.cells #[.slice A l.length c, .slice B r.length d, .int .i64 m] 46))
  clear o1
  have o19 := o2.keep (alloc_below _ (.cells #[.slice A l.length c, .slice B r.length d, .int .i64 m] 46))
  clear o2
  have b20 := alloc_blk (.cells #[.slice A l.length c, .slice B r.length d, .int .i64 m] 46) b14
  have b21 := heap_alloc_new w2 (.cells #[.slice A l.length c, .slice B r.length d, .int .i64 m] 46)
  have hr22 := rd_alloc hr12 (.cells #[.slice A l.length c, .slice B r.length d, .int .i64 m] 46)
  have g23 := g15.alloc (by have := g15.size; first | exact this | (simp; omega) | omega) (.cells #[.slice A l.length c, .slice B r.length d, .int .i64 m] 46)
  clear b14 hr12 g15
  go_wp2_with fail
  refine (anyRange_any _ R p2 hr22 (by omega)).mono ?_
  rintro e w3 ⟨low, high, p4, rfl, y0, y1, y2, y3, hp4, hr24, hg25⟩
  have zs_w3 := hg25.size
  have o32 := own_gr o18 hg25 (by omega)
  clear o18
  have o33 := own_gr o19 hg25 (by omega)
  clear o19
  have b26 := gr_blk hg25 b20 (by omega)
  have b27 := gr_blk hg25 b21 (by omega)
  have g28 := g23.trans (gr_of_below (B := w.heap.size) hg25 (by have := g23.size; first | exact this | (simp; omega) | omega) (by omega))
  have lt29 := rd_lt hr24
  have lt30 := blk_lt b26
  have lt31 := blk_lt b27
  clear hg25 hr22 g23 b20 b21
  have n1 : w.heap.size ≠ w2.heap.size := by omega
  have n2 : w2.heap.size ≠ w.heap.size := by omega
  have e1 : IntKind.i64.wrap (m + 4) = m + 4 := IntWalk.i64_in _ (by omega)
  have e2 : IntKind.i64.wrap (m + 12) = m + 12 := IntWalk.i64_in _ (by omega)
  have e3 : IntKind.i64.wrap (m - 1) = m - 1 := IntWalk.i64_in _ (by omega)
  have nA : ∀ g, Value.ownBlock (.slice A l.length c) = some g → g ≠ w.heap.size := fun g hg => by have := o32.lt g hg; omega
  have nB : ∀ g, Value.ownBlock (.slice B r.length d) = some g → g ≠ w.heap.size := fun g hg => by have := o33.lt g hg; omega
  obtain ⟨k0, k1, k2, kf, kl⟩ := blk3 b27
  go_wp2_with fail
  have b34 := alloc_blk (.cells #[.int .i64 m, .int .i64 (m + 4), .int .i64 (m + 12), .int .i64 40, .int .i64 3000, .int .i64 3001, .int .i64 (m - 1)] 3) b26
  have b35 := alloc_blk (.cells #[.int .i64 m, .int .i64 (m + 4), .int .i64 (m + 12), .int .i64 40, .int .i64 3000, .int .i64 3001, .int .i64 (m - 1)] 3) b27
  have b36 := heap_alloc_new w3 (.cells #[.int .i64 m, .int .i64 (m + 4), .int .i64 (m + 12), .int .i64 40, .int .i64 3000, .int .i64 3001, .int .i64 (m - 1)] 3)
  have hr37 := rd_alloc hr24 (.cells #[.int .i64 m, .int .i64 (m + 4), .int .i64 (m + 12), .int .i64 40, .int .i64 3000, .int .i64 3001, .int .i64 (m - 1)] 3)
  have g38 := g28.alloc (by have := g28.size; first | exact this | (simp; omega) | omega) (.cells #[.int .i64 m, .int .i64 (m + 4), .int .i64 (m + 12), .int .i64 40, .int .i64 3000, .int .i64 3001, .int .i64 (m - 1)] 3)
  clear b26 b27 hr24 g28
  go_region_held3 (fun w' => w'.cell? ⟨w2.heap.size, 0, none⟩ = some (.slice A l.length c) ∧ w'.cell? ⟨w2.heap.size, 1, none⟩ = some (.slice B r.length d) ∧ w'.cell? ⟨w2.heap.size, 2, none⟩ = some (.int .i64 m)) (first | go_keep | (go_split_ands; (repeat' constructor) <;> (refine (gr_cell hg40 (by first | omega | (simp; omega)) (by omega)).trans ?_; first | assumption | (simp [go_sem, *]; done)))) ((go_at_call 24; refine (oneL_any [m, (m + 4), (m + 12), 40, 3000, 3001, (m - 1)] _ R (p4) 7 (rd_drew hr37) (by omega) (w3.heap.size) _ b36 rfl rfl (by omega) (by omega) (by omega)).mono ?_; rintro e w4 ⟨mark, mark_m, rfl, hr39, hg40⟩; have oA := own_gr ((o32.keep (alloc_below _ (.cells #[.int .i64 m, .int .i64 (m + 4), .int .i64 (m + 12), .int .i64 40, .int .i64 3000, .int .i64 3001, .int .i64 (m - 1)] 3))).keep (Below.refl _ _).drew) hg40 (by omega); have oB := own_gr ((o33.keep (alloc_below _ (.cells #[.int .i64 m, .int .i64 (m + 4), .int .i64 (m + 12), .int .i64 40, .int .i64 3000, .int .i64 3001, .int .i64 (m - 1)] 3))).keep (Below.refl _ _).drew) hg40 (by omega); have b41 := gr_blk hg40 b34 (by omega); have b42 := gr_blk hg40 b35 (by omega); have g43 := (g38.drew).trans (gr_of_below (B := w.heap.size) hg40 (by have := (g38.drew).size; first | exact this | (simp; omega) | omega) (by omega)); have lt44 := blk_lt b41; have lt45 := blk_lt b42; obtain ⟨r0, r1, r2, rf, rl⟩ := blk3 b41; obtain ⟨q0, q1, q2, qf, ql⟩ := blk3 b42))
  rename_i hHeld
  clear b36 hr37 g38 hg40 hHeld b34 b35
  have mark_b : -3 ≤ mark ∧ mark ≤ 3013 := by simp at mark_m; omega
  clear mark_m
  have zz := g43.size
  clear o32 o33
  have pA := own_rebase (B := w.heap.size) oA (by first | omega | simp)
  have pB := own_rebase (B := w.heap.size) oB (by first | omega | simp)
  clear oA oB
  go_wp2
  refine bodyPost_ret (v := .tuple #[.agg #[.slice A l.length c, .slice B r.length d, .int .i64 m], .int .i64 mark, .int .i64 low, .int .i64 high]) (by simp [results, Try.results18, go_sem, r0, r1, r2]) rfl ?_
  refine ⟨A, c, l, B, d, r, m, mark, low, high, rfl, ?_, ?_, l41, r41, m0, m1, mark_b.1, mark_b.2, y0, y1, y2, y3, ?_⟩
  · exact ((pA.set (p := ⟨w.heap.size, 0, none⟩) nA _).set (p := ⟨w.heap.size, 1, none⟩) nA _).set (p := ⟨w.heap.size, 2, none⟩) nA _
  · exact ((pB.set (p := ⟨w.heap.size, 0, none⟩) nB _).set (p := ⟨w.heap.size, 1, none⟩) nB _).set (p := ⟨w.heap.size, 2, none⟩) nB _
  · go_grown
end Go.Proofs.Ytgnogkkdojagcaa
