import Derived.Test.YtcpjidbinhfapabAnyCh0
import Derived.Test.YtcpjidbinhfapabChM
import Derived.Test.YtcpjidbinhfapabRg
namespace Go.Proofs.Ytcpjidbinhfapab
open Go.RowKit
theorem gmade {W W' : World} {R : Nat} {a b c : Value} {T : Nat} (hg : Gr (W.alloc (.cells #[a, b, c] T)).drew W' R) (h : R < W.heap.size) : Bx W' W.heap.size a b c :=
  ((Bx.made W a b c T).keep (Below.refl _ _).drew).far hg (fun e => by injection e with e; omega)
theorem ChSt.store {w wr : World} {R p G G5 : Nat} {x y : Int} {A : Option Addr} {c : Nat} {l : List ItemR} (h : ChSt w wr R p G x y A c l) (hR : R < G5) (hw : w.heap.size < G5) (hG : G ≠ G5) (hq : ∀ g, Value.ownBlock (.slice A l.length c) = some g → g ≠ G5) (a b s : Value) :
    ChSt w (((wr.setCell ⟨G5, 0, none⟩ a).setCell ⟨G5, 1, none⟩ b).setCell ⟨G5, 2, none⟩ s) R p G x y A c l := by
  obtain ⟨h1, h2, h3, h4, h5, h6, h7⟩ := h
  exact ⟨rd_setCell (a := ⟨G5, 2, none⟩) (rd_setCell (a := ⟨G5, 1, none⟩) (rd_setCell (a := ⟨G5, 0, none⟩) h1 hR _) hR _) hR _,
    gr_setCell (p := ⟨G5, 2, none⟩) (gr_setCell (p := ⟨G5, 1, none⟩) (gr_setCell (p := ⟨G5, 0, none⟩) h2 (Nat.le_of_lt hw) _) (Nat.le_of_lt hw) _) (Nat.le_of_lt hw) _,
    ((h3.set_far (p := ⟨G5, 0, none⟩) hG _).set_far (p := ⟨G5, 1, none⟩) hG _).set_far (p := ⟨G5, 2, none⟩) hG _, h4, ((h5.set (p := ⟨G5, 0, none⟩) hq _).set (p := ⟨G5, 1, none⟩) hq _).set (p := ⟨G5, 2, none⟩) hq _, h6,
    ((h7.set_far (p := ⟨G5, 0, none⟩) (by simp; omega) _).set_far (p := ⟨G5, 1, none⟩) (by simp; omega) _).set_far (p := ⟨G5, 2, none⟩) (by simp; omega) _⟩
/-- A candidate that lies in a box of its own. -/
def Cand (w wx : World) (G G5 : Nat) (X Y : Int) (A : Option Addr) (c : Nat) (L : List ItemR) (k : Bool) : Prop :=
  Bx wx G5 (.int .i64 X) (.int .i64 Y) (.slice A L.length c) ∧ (k = true → chB X Y L = true) ∧ Own ItemR.enc 2 32 wx (w.heap.size + 1) (.slice A L.length c) L ∧ (∀ g, Value.ownBlock (.slice A L.length c) = some g → g ≠ G) ∧ G ≠ G5
theorem candA {w v2 : World} {B G : Nat} {X Y : Int} {A : Option Addr} {c : Nat} {L : List ItemR} {k : Bool} (T : Nat) (o : Own ItemR.enc 2 32 v2 B (.slice A L.length c) L) (hB : w.heap.size + 1 ≤ B) (hG : G < B) (hG2 : G < v2.heap.size) (hk : k = true → chB X Y L = true) :
    Cand w (v2.alloc (.cells #[.int .i64 X, .int .i64 Y, .slice A L.length c] T)) G v2.heap.size X Y A c L k :=
  ⟨Bx.made _ _ _ _ _, hk, own_rebase (o.keep (alloc_below _ _)) hB, fun g hg => by have := (o.lt g hg).1; omega, by omega⟩
theorem candB {w v2 : World} {B G G5 : Nat} {X Y : Int} {A : Option Addr} {c : Nat} {L : List ItemR} {k : Bool} {z0 z1 z2 : Value} (hN : Bx v2 G5 z0 z1 z2) (o : Own ItemR.enc 2 32 v2 B (.slice A L.length c) L) (hB : w.heap.size + 1 ≤ B) (hG : G < B) (h5 : G5 < B) (hG2 : G < G5) (hk : k = true → chB X Y L = true) :
    Cand w (((v2.setCell ⟨G5, 0, none⟩ (.int .i64 X)).setCell ⟨G5, 1, none⟩ (.int .i64 Y)).setCell ⟨G5, 2, none⟩ (.slice A L.length c)) G G5 X Y A c L k := by
  have q : ∀ g, Value.ownBlock (.slice A L.length c) = some g → g ≠ G5 := fun g hg => by have := (o.lt g hg).1; omega
  have ob := own_rebase (B := w.heap.size + 1) o hB
  exact ⟨((hN.set0 _).set1 _).set2 _, hk, ((ob.set (p := ⟨G5, 0, none⟩) q _).set (p := ⟨G5, 1, none⟩) q _).set (p := ⟨G5, 2, none⟩) q _, fun g hg => by have := (o.lt g hg).1; omega, by omega⟩
theorem Cand.keep {w wx w' : World} {G G5 : Nat} {X Y : Int} {A : Option Addr} {c : Nat} {L : List ItemR} {k : Bool} (h : Cand w wx G G5 X Y A c L k) (hb : Below wx.heap.size wx w') : Cand w w' G G5 X Y A c L k :=
  ⟨h.1.keep hb, h.2.1, h.2.2.1.keep hb, h.2.2.2.1, h.2.2.2.2⟩
def AnyPost (w : World) (R p : Nat) (e : Ending) (w' : World) : Prop :=
  ∃ (x y : Int) (A : Option Addr) (c : Nat) (l : List ItemR) (p' : Nat), e = .returned (.agg #[.int .i64 x, .int .i64 y, .slice A l.length c]) ∧ -1 ≤ x ∧ x ≤ 9 ∧ -1 ≤ y ∧ y ≤ 9 ∧ l.length ≤ 8 ∧ Own ItemR.enc 2 32 w' w.heap.size (.slice A l.length c) l ∧ p' ≤ p + 60 ∧ Rd w' R p' ∧ Gr w w' R
set_option maxRecDepth 100000 in
set_option maxHeartbeats 8000000 in
theorem anyChannel_any (w : World) (R p : Nat) (h : Rd w R p) (hp : p + 60 ≤ 1000000000) : Calls Try.prog 46 #[.pointer (some ⟨R, 0, none⟩)] w (AnyPost w R p) := by
  have hR := rd_lt h
  have R0 := Bx.made w (.int .i64 0) (.int .i64 0) (.slice none 0 0) 26
  have h0 := rd_alloc h (.cells #[.int .i64 0, .int .i64 0, .slice none 0 0] 26)
  have g0 := gr_alloc (gr_refl w R) (.cells #[.int .i64 0, .int .i64 0, .slice none 0 0] 26)
  have zA : w.heap.size + 1 = (w.alloc (.cells #[.int .i64 0, .int .i64 0, .slice none 0 0] 26)).heap.size := by simp
  go_enter Try.func46, Try.ntmps46
  go_wp2_with fail
  generalize w.alloc (.cells #[.int .i64 0, .int .i64 0, .slice none 0 0] 26) = wA at *
  refine (pick_any 5 _ R p h0 (by omega) (by omega)).mono ?_
  rintro e w1 ⟨v, rfl, v0, v1, -, hr1, hg1, -⟩
  have v2 := v1 (by omega)
  have R1 := R0.far hg1 (fun e => by injection e with e; omega)
  have g1 := gr_trans g0 hg1
  have zw1 := hg1.size
  clear v1 h0 R0 g0
  obtain ⟨L0, hL0⟩ : ∃ L : List ItemR, L = [] := ⟨_, rfl⟩
  have HL0 := Lib.hid hL0
  have hnv : chB (1 + v) (1 + v) L0 = true := by
    have := new_ok (n := 1 + v) (by omega)
    rw [show cnF (1 + v) = 1 + v by unfold cnF; rw [if_pos (by omega)]] at this
    rw [hL0]; exact this
  have HC := Lib.hid (show cnF (1 + v) = 1 + v by unfold cnF; rw [if_pos (by omega)])
  clear hL0
  go_wp2_with fail
  refine (newS_M L0 HL0.out (1 + v) (1 + v) HC.out _).mono ?_
  rintro e w2 ⟨A1, c1, rfl, o1, b2⟩
  have st : ChSt w (w2.alloc (.cells #[.int .i64 (1 + v), .int .i64 (1 + v), .slice A1 L0.length c1] 26)) R (p + 1) w2.heap.size (1 + v) (1 + v) A1 c1 L0 :=
    ⟨rd_below (rd_below hr1 b2) (alloc_below _ _), gr_below (gr_below g1 b2) (alloc_below _ _), Bx.made _ _ _ _ _, hnv, own_rebase (o1.keep (alloc_below _ _)) (by omega), fun g hg => Nat.ne_of_lt (o1.lt g hg).2, (R1.keep b2).keep (alloc_below _ _)⟩
  have zw2 := b2.size
  have hRG : R < w2.heap.size := by omega
  have hwG : w.heap.size < w2.heap.size := by omega
  have hRne : R ≠ w2.heap.size := by omega
  have zw3 : w2.heap.size < (w2.alloc (.cells #[.int .i64 (1 + v), .int .i64 (1 + v), .slice A1 L0.length c1] 26)).heap.size := by simp
  clear hr1 hg1 R1 g1 b2 o1 hnv
  go_wp2_with fail
  generalize (w2.alloc (.cells #[.int .i64 (1 + v), .int .i64 (1 + v), .slice A1 L0.length c1] 26)) = w3 at *
  refine (pick_any 9 _ R (p + 1) st.1 (by omega) (by omega)).mono ?_
  rintro e w4 ⟨n, rfl, n0, n1, -, hr4, hg4, -⟩
  have n2 := n1 (by omega)
  have Hst := Lib.hid (st.pick hr4 hg4 hR hRne)
  clear st hr4 hg4 n1
  obtain ⟨N, rfl⟩ := Int.eq_ofNat_of_zero_le n0
  have N8 : N ≤ 8 := by omega
  go_wp2
  go_loopw [4] (fun n wr => ∃ (m p' : Nat) (x y : Int) (A : Option Addr) (c : Nat) (l : List ItemR), m ≤ 8 ∧ n = .int .i64 m ∧ p' + 6 * m ≤ p + 50 ∧ ChSt w wr R p' w2.heap.size x y A c l) (fun n _ => (intOf n).toNat)
  case atStart => exact ⟨N, p + 1 + 1, _, _, _, _, _, N8, rfl, by omega, Hst.out⟩
  case round =>
    obtain ⟨m, p', x, y, A, c, l, hm, rfl, hp', st⟩ := hrel
    clear Hst
    rcases m with _ | m
    · have _t := trivial
      have hX := st.2.2.1
      obtain ⟨s0, s1, s2, sf, sl⟩ := hX
      obtain ⟨ba, bb, bc, bd, be⟩ := chB_parts st.2.2.2.1
      have h8 := chB_len st.2.2.2.1
      go_wp2_with fail
      clear s0 s1 s2 sf sl
      refine (pick_any 24 _ R p' st.1 (by omega) (by omega)).mono ?_
      rintro e w6 ⟨u, rfl, u0, u1, -, hr6, hg6, -⟩
      have st6 := st.pick hr6 hg6 hR hRne
      have qR6 : ∀ g, Value.ownBlock (.slice A l.length c) = some g → w.heap.size + 1 ≤ g := fun g hg => (st6.2.2.2.2.1.lt g hg).1
      have z6 : w2.heap.size < w6.heap.size := st6.2.2.1.2.2.2.2
      clear st hr6 hg6 u1
      rcases (show u = 0 ∨ u = 1 ∨ 1 < u by omega) with rfl | rfl | hu
      · have _t := trivial
        have hX := st6.2.2.1
        obtain ⟨s0, s1, s2, sf, sl⟩ := hX
        go_wp2_with fail
        clear s0 s1 s2 sf sl
        have stL := st6.keep (alloc_below w6 (.cells #[.int .i64 (-1), .int .i64 0, .int .i64 8, .int .i64 9] 3))
        refine (oneL_any [-1, 0, 8, 9] _ R (p' + 1) 4 stL.1 (by omega) w6.heap.size _ (heap_alloc_new w6 _) rfl rfl (by omega) (by omega) (by omega)).mono ?_
        rintro e w7 ⟨z, z_m, rfl, hr7, hg7⟩
        have z_b : -1 ≤ z ∧ z ≤ 9 := by simp at z_m; omega
        clear z_m
        have st7 := stL.pick hr7 hg7 hR hRne
        obtain ⟨z_0, z_9⟩ := z_b
        have qR : ∀ g, Value.ownBlock (.slice A l.length c) = some g → g ≠ w.heap.size := fun g hg => by have := qR6 g hg; omega
        have OF := st7.2.2.2.2.1.set (p := ⟨w2.heap.size, 1, none⟩) st7.2.2.2.2.2.1 (.int .i64 z)
        have GF := gr_setCell (p := ⟨w2.heap.size, 1, none⟩) st7.2.1 (Nat.le_of_lt hwG) (.int .i64 z)
        have RF := rd_setCell (a := ⟨w2.heap.size, 1, none⟩) st7.1 hRG (.int .i64 z)
        have ZF := st7.2.2.2.2.2.2.set_far (p := ⟨w2.heap.size, 1, none⟩) (by simp; omega) (.int .i64 z)
        have XF := st7.2.2.1.set1 (.int .i64 z)
        have hX7 := st7.2.2.1
        have hZ7 := ZF
        obtain ⟨s0, s1, s2, sf, sl⟩ := hX7
        obtain ⟨t0, t1, t2, tf, tl⟩ := XF
        obtain ⟨r0, r1, r2, rf, rl⟩ := hZ7
        clear hr7 hg7 st6 stL st7
        have hq0 : ∀ g, Value.ownBlock (.slice A l.length c) = some g → g ≠ w.heap.size := qR
        have of := ((OF.set (p := ⟨w.heap.size, 0, none⟩) hq0 (.int .i64 x)).set (p := ⟨w.heap.size, 1, none⟩) hq0 (.int .i64 z)).set (p := ⟨w.heap.size, 2, none⟩) hq0 (.slice A l.length c)
        have gf := gr_setCell (p := ⟨w.heap.size, 2, none⟩) (gr_setCell (p := ⟨w.heap.size, 1, none⟩) (gr_setCell (p := ⟨w.heap.size, 0, none⟩) GF (Nat.le_refl _) (.int .i64 x)) (Nat.le_refl _) (.int .i64 z)) (Nat.le_refl _) (.slice A l.length c)
        have rf_ := rd_setCell (a := ⟨w.heap.size, 2, none⟩) (rd_setCell (a := ⟨w.heap.size, 1, none⟩) (rd_setCell (a := ⟨w.heap.size, 0, none⟩) RF hR (.int .i64 x)) hR (.int .i64 z)) hR (.slice A l.length c)
        obtain ⟨e0, e1, e2, -, -⟩ := ((ZF.set0 (.int .i64 x)).set1 (.int .i64 z)).set2 (.slice A l.length c)
        have He := Lib.hid (show _ ∧ _ ∧ _ from ⟨e0, e1, e2⟩)
        clear e0 e1 e2
        go_wp2
        generalize ((((w7.setCell ⟨w2.heap.size, 1, none⟩ (.int .i64 z)).setCell ⟨w.heap.size, 0, none⟩ (.int .i64 x)).setCell ⟨w.heap.size, 1, none⟩ (.int .i64 z)).setCell ⟨w.heap.size, 2, none⟩ (.slice A l.length c)) = wF at *
        have e := He.out
        (try simp only [Exit.inBlock, Exit.then])
        refine bodyPost_ret (by simp [results, Try.results46, go_sem, e.1, e.2.1, e.2.2]; try rfl) rfl ?_
        exact ⟨_, _, A, c, l, p' + 1 + 1, rfl, by omega, by omega, by omega, by omega, by omega, own_rebase of (by omega), by omega, rf_, gf⟩
      · have _t := trivial
        have hX := st6.2.2.1
        obtain ⟨s0, s1, s2, sf, sl⟩ := hX
        go_wp2_with fail
        clear s0 s1 s2 sf sl
        have stL := st6.keep (alloc_below w6 (.cells #[.int .i64 0, .int .i64 8, .int .i64 9] 3))
        refine (oneL_any [0, 8, 9] _ R (p' + 1) 3 stL.1 (by omega) w6.heap.size _ (heap_alloc_new w6 _) rfl rfl (by omega) (by omega) (by omega)).mono ?_
        rintro e w7 ⟨z, z_m, rfl, hr7, hg7⟩
        have z_b : -1 ≤ z ∧ z ≤ 9 := by simp at z_m; omega
        clear z_m
        have st7 := stL.pick hr7 hg7 hR hRne
        obtain ⟨z_0, z_9⟩ := z_b
        have qR : ∀ g, Value.ownBlock (.slice A l.length c) = some g → g ≠ w.heap.size := fun g hg => by have := qR6 g hg; omega
        have OF := st7.2.2.2.2.1.set (p := ⟨w2.heap.size, 0, none⟩) st7.2.2.2.2.2.1 (.int .i64 z)
        have GF := gr_setCell (p := ⟨w2.heap.size, 0, none⟩) st7.2.1 (Nat.le_of_lt hwG) (.int .i64 z)
        have RF := rd_setCell (a := ⟨w2.heap.size, 0, none⟩) st7.1 hRG (.int .i64 z)
        have ZF := st7.2.2.2.2.2.2.set_far (p := ⟨w2.heap.size, 0, none⟩) (by simp; omega) (.int .i64 z)
        have XF := st7.2.2.1.set0 (.int .i64 z)
        have hX7 := st7.2.2.1
        have hZ7 := ZF
        obtain ⟨s0, s1, s2, sf, sl⟩ := hX7
        obtain ⟨t0, t1, t2, tf, tl⟩ := XF
        obtain ⟨r0, r1, r2, rf, rl⟩ := hZ7
        clear hr7 hg7 st6 stL st7
        have hq0 : ∀ g, Value.ownBlock (.slice A l.length c) = some g → g ≠ w.heap.size := qR
        have of := ((OF.set (p := ⟨w.heap.size, 0, none⟩) hq0 (.int .i64 z)).set (p := ⟨w.heap.size, 1, none⟩) hq0 (.int .i64 y)).set (p := ⟨w.heap.size, 2, none⟩) hq0 (.slice A l.length c)
        have gf := gr_setCell (p := ⟨w.heap.size, 2, none⟩) (gr_setCell (p := ⟨w.heap.size, 1, none⟩) (gr_setCell (p := ⟨w.heap.size, 0, none⟩) GF (Nat.le_refl _) (.int .i64 z)) (Nat.le_refl _) (.int .i64 y)) (Nat.le_refl _) (.slice A l.length c)
        have rf_ := rd_setCell (a := ⟨w.heap.size, 2, none⟩) (rd_setCell (a := ⟨w.heap.size, 1, none⟩) (rd_setCell (a := ⟨w.heap.size, 0, none⟩) RF hR (.int .i64 z)) hR (.int .i64 y)) hR (.slice A l.length c)
        obtain ⟨e0, e1, e2, -, -⟩ := ((ZF.set0 (.int .i64 z)).set1 (.int .i64 y)).set2 (.slice A l.length c)
        have He := Lib.hid (show _ ∧ _ ∧ _ from ⟨e0, e1, e2⟩)
        clear e0 e1 e2
        go_wp2
        generalize ((((w7.setCell ⟨w2.heap.size, 0, none⟩ (.int .i64 z)).setCell ⟨w.heap.size, 0, none⟩ (.int .i64 z)).setCell ⟨w.heap.size, 1, none⟩ (.int .i64 y)).setCell ⟨w.heap.size, 2, none⟩ (.slice A l.length c)) = wF at *
        have e := He.out
        (try simp only [Exit.inBlock, Exit.then])
        refine bodyPost_ret (by simp [results, Try.results46, go_sem, e.1, e.2.1, e.2.2]; try rfl) rfl ?_
        exact ⟨_, _, A, c, l, p' + 1 + 1, rfl, by omega, by omega, by omega, by omega, by omega, own_rebase of (by omega), by omega, rf_, gf⟩
      · have u_0 : (u == 0) = false := by simp; omega
        have u_1 : (u == 1) = false := by simp; omega
        have qR : ∀ g, Value.ownBlock (.slice A l.length c) = some g → g ≠ w.heap.size := fun g hg => by have := qR6 g hg; omega
        have OF := st6.2.2.2.2.1
        have GF := st6.2.1
        have RF := st6.1
        have ZF := st6.2.2.2.2.2.2
        have hX7 := st6.2.2.1
        have hZ7 := ZF
        obtain ⟨s0, s1, s2, sf, sl⟩ := hX7
        obtain ⟨r0, r1, r2, rf, rl⟩ := hZ7
        clear st6
        have hq0 : ∀ g, Value.ownBlock (.slice A l.length c) = some g → g ≠ w.heap.size := qR
        have of := ((OF.set (p := ⟨w.heap.size, 0, none⟩) hq0 (.int .i64 x)).set (p := ⟨w.heap.size, 1, none⟩) hq0 (.int .i64 y)).set (p := ⟨w.heap.size, 2, none⟩) hq0 (.slice A l.length c)
        have gf := gr_setCell (p := ⟨w.heap.size, 2, none⟩) (gr_setCell (p := ⟨w.heap.size, 1, none⟩) (gr_setCell (p := ⟨w.heap.size, 0, none⟩) GF (Nat.le_refl _) (.int .i64 x)) (Nat.le_refl _) (.int .i64 y)) (Nat.le_refl _) (.slice A l.length c)
        have rf_ := rd_setCell (a := ⟨w.heap.size, 2, none⟩) (rd_setCell (a := ⟨w.heap.size, 1, none⟩) (rd_setCell (a := ⟨w.heap.size, 0, none⟩) RF hR (.int .i64 x)) hR (.int .i64 y)) hR (.slice A l.length c)
        obtain ⟨e0, e1, e2, -, -⟩ := ((ZF.set0 (.int .i64 x)).set1 (.int .i64 y)).set2 (.slice A l.length c)
        have He := Lib.hid (show _ ∧ _ ∧ _ from ⟨e0, e1, e2⟩)
        clear e0 e1 e2
        go_wp2
        generalize (((w6.setCell ⟨w.heap.size, 0, none⟩ (.int .i64 x)).setCell ⟨w.heap.size, 1, none⟩ (.int .i64 y)).setCell ⟨w.heap.size, 2, none⟩ (.slice A l.length c)) = wF at *
        have e := He.out
        (try simp only [Exit.inBlock, Exit.then])
        refine bodyPost_ret (by simp [results, Try.results46, go_sem, e.1, e.2.1, e.2.2]; try rfl) rfl ?_
        exact ⟨_, _, A, c, l, p' + 1, rfl, by omega, by omega, by omega, by omega, by omega, own_rebase of (by omega), by omega, rf_, gf⟩
    · have hX := st.2.2.1
      obtain ⟨s0, s1, s2, sf, sl⟩ := hX
      go_wp2_with fail
      clear s0 s1 s2 sf sl
      refine (pick_any 4 _ R p' st.1 (by omega) (by omega)).mono ?_
      rintro e w5 ⟨u, rfl, u0, u1, -, hr5, hg5, -⟩
      have u2 := u1 (by omega)
      have st5 := st.pick hr5 hg5 hR hRne
      have hR5 : R < w5.heap.size := rd_lt hr5
      have z5 : w2.heap.size < w5.heap.size := st5.2.2.1.2.2.2.2
      have hold5 : ∀ g, Value.ownBlock (.slice A l.length c) = some g → g < w5.heap.size := fun g hg => (st5.2.2.2.2.1.lt g hg).2
      clear st hr5 hg5 u1
      have hX := st5.2.2.1
      obtain ⟨s0, s1, s2, sf, sl⟩ := hX
      rcases (show u = 0 ∨ u = 1 ∨ u = 2 ∨ u = 3 by omega) with rfl | rfl | rfl | rfl
      · go_wp2_with fail
        go_cut [5, 6] (fun s5 s6 wx => ∃ (G5 p2 : Nat) (X Y : Int) (A2 : Option Addr) (c2 : Nat) (L : List ItemR) (k : Bool), s5 = .pointer (some ⟨G5, 0, none⟩) ∧ s6 = .bool k ∧ p2 ≤ p' + 4 ∧ ChSt w wx R p2 w2.heap.size x y A c l ∧ Cand w wx w2.heap.size G5 X Y A2 c2 L k)
        case first =>
          go_region_held3 (fun w' => w'.cell? ⟨w2.heap.size, 0, none⟩ = some (.int .i64 x) ∧ w'.cell? ⟨w2.heap.size, 1, none⟩ = some (.int .i64 y) ∧ w'.cell? ⟨w2.heap.size, 2, none⟩ = some (.slice A l.length c)) ((repeat' apply And.intro) <;> first | (with_reducible assumption) | (simp only [World.cell?_drew]; with_reducible assumption) | (go_keep; done) | (simp [go_sem, *]; done)) (first | (go_at_call 47; refine (anyItem_any _ R (p' + 1) (by first | exact rd_drew st5.1 | exact rd_drew (rd_alloc st5.1 _)) (by omega)).mono ?_; rintro e v1 ⟨k1, n1, p2, rfl, ka, kb, na, nb, hp2, hr_1, hg_1⟩; (first | have ST1 := ChSt.pick (ChSt.keep st5 (Below.refl _ _).drew) hr_1 hg_1 hR hRne | have ST1 := ChSt.pick (ChSt.keep (ChSt.keep st5 (alloc_below _ _)) (Below.refl _ _).drew) hr_1 hg_1 hR hRne); have zv1 := hg_1.size; (try simp only [World.size_drew, World.size_alloc] at zv1); (first | have hNn := gmade hg_1 hR5 | skip); (first | (have hNx := hNn; obtain ⟨n0, n1_, n2, nf, nl⟩ := hNx) | skip); have s0 := ST1.2.2.1.1; have s1 := ST1.2.2.1.2.1; have s2 := ST1.2.2.1.2.2.1; have tl := ST1.2.2.1.2.2.2.2) | (go_at_call 15; (first | refine (specSd_any x y A c l ⟨k1, n1⟩ _ (ST1.2.2.2.2.1.row ItemR.enc_len)).mono ?_ | refine (specSd_any x y A c l ⟨k1, n1⟩ _ ((ChSt.keep ST1 (alloc_below _ _)).2.2.2.2.1.row ItemR.enc_len)).mono ?_); rintro e v2 ⟨A2, c2, rfl, o2, b2⟩; (first | have ST2 := ChSt.keep ST1 b2 | have ST2 := ChSt.keep (ChSt.keep ST1 (alloc_below _ _)) b2); have zv2 := b2.size; (try simp only [World.size_alloc] at zv2); (first | (have hNn := made3 b2; have hq := made3_lt b2) | (have hNn' := hNn; have hNn := Bx.keep hNn b2; have hq := keep_lt hNn' b2) | skip); (first | (have hNx := hNn; obtain ⟨n0, n1_, n2, nf, nl⟩ := hNx) | skip); have u0 := ST2.2.2.1.1; have u1 := ST2.2.2.1.2.1; have u2 := ST2.2.2.1.2.2.1))
          all_goals
            rename_i hHeld
            clear hHeld
            go_wp2_with fail
            go_meet
            first
              | exact ⟨_, p2, _, _, A2, c2, _, _, rfl, rfl, by omega, ST2.keep (alloc_below _ _), candA _ o2 (by first | omega | (simp; omega)) (by first | omega | (simp; omega)) (by omega) sd_ok⟩
              | exact ⟨_, p2, _, _, A2, c2, _, _, rfl, rfl, by omega, ST2.store (by omega) (by omega) (by omega) (fun g hg => by have := hold5 g hg; omega) _ _ _, candB hNn o2 (by first | omega | (simp; omega)) (by first | omega | (simp; omega)) hq (by omega) sd_ok⟩
        case rest =>
          obtain ⟨G5, p2, X, Y, A2, c2, L, k, rfl, rfl, hp2, ST, cd⟩ := hcut
          clear s0 s1 s2 sf sl
          generalize wc = w6 at *
          rcases Bool.eq_false_or_eq_true k with hk | hk
          · rw [hk]
            have hv := cd.2.1 hk
            have Hn := Lib.hid (ChSt.put ST hRG hwG hv cd.2.2.1 cd.2.2.2.1)
            have c1 := cd.1
            have c2 := ST.2.2.1
            obtain ⟨n0, n1, n2, nf, nl⟩ := c1
            obtain ⟨q0, q1, q2, qf, ql⟩ := c2
            clear hk hv ST cd st5
            go_wp2
            go_roundw
            case rel => exact ⟨m, p2, _, _, _, _, _, by omega, by go_num, by omega, Hn.out⟩
            case measure => first | (simp [intOf]; done) | (simp [intOf]; omega)
          · rw [hk]
            have Hn := Lib.hid ST
            clear hk ST cd st5
            go_wp2
            go_roundw
            case rel => exact ⟨m, p2, _, _, _, _, _, by omega, by go_num, by omega, Hn.out⟩
            case measure => first | (simp [intOf]; done) | (simp [intOf]; omega)
      · go_wp2_with fail
        go_cut [5, 6] (fun s5 s6 wx => ∃ (G5 p2 : Nat) (X Y : Int) (A2 : Option Addr) (c2 : Nat) (L : List ItemR) (k : Bool), s5 = .pointer (some ⟨G5, 0, none⟩) ∧ s6 = .bool k ∧ p2 ≤ p' + 4 ∧ ChSt w wx R p2 w2.heap.size x y A c l ∧ Cand w wx w2.heap.size G5 X Y A2 c2 L k)
        case first =>
          go_region_held3 (fun w' => w'.cell? ⟨w2.heap.size, 0, none⟩ = some (.int .i64 x) ∧ w'.cell? ⟨w2.heap.size, 1, none⟩ = some (.int .i64 y) ∧ w'.cell? ⟨w2.heap.size, 2, none⟩ = some (.slice A l.length c)) ((repeat' apply And.intro) <;> first | (with_reducible assumption) | (simp only [World.cell?_drew]; with_reducible assumption) | (go_keep; done) | (simp [go_sem, *]; done)) (first | (go_at_call 47; refine (anyItem_any _ R (p' + 1) (by first | exact rd_drew st5.1 | exact rd_drew (rd_alloc st5.1 _)) (by omega)).mono ?_; rintro e v1 ⟨k1, n1, p2, rfl, ka, kb, na, nb, hp2, hr_1, hg_1⟩; (first | have ST1 := ChSt.pick (ChSt.keep st5 (Below.refl _ _).drew) hr_1 hg_1 hR hRne | have ST1 := ChSt.pick (ChSt.keep (ChSt.keep st5 (alloc_below _ _)) (Below.refl _ _).drew) hr_1 hg_1 hR hRne); have zv1 := hg_1.size; (try simp only [World.size_drew, World.size_alloc] at zv1); (first | have hNn := gmade hg_1 hR5 | skip); (first | (have hNx := hNn; obtain ⟨n0, n1_, n2, nf, nl⟩ := hNx) | skip); have s0 := ST1.2.2.1.1; have s1 := ST1.2.2.1.2.1; have s2 := ST1.2.2.1.2.2.1; have tl := ST1.2.2.1.2.2.2.2) | (go_at_call 15; (first | refine (specSd_any x y A c l ⟨k1, n1⟩ _ (ST1.2.2.2.2.1.row ItemR.enc_len)).mono ?_ | refine (specSd_any x y A c l ⟨k1, n1⟩ _ ((ChSt.keep ST1 (alloc_below _ _)).2.2.2.2.1.row ItemR.enc_len)).mono ?_); rintro e v2 ⟨A2, c2, rfl, o2, b2⟩; (first | have ST2 := ChSt.keep ST1 b2 | have ST2 := ChSt.keep (ChSt.keep ST1 (alloc_below _ _)) b2); have zv2 := b2.size; (try simp only [World.size_alloc] at zv2); (first | (have hNn := made3 b2; have hq := made3_lt b2) | (have hNn' := hNn; have hNn := Bx.keep hNn b2; have hq := keep_lt hNn' b2) | skip); (first | (have hNx := hNn; obtain ⟨n0, n1_, n2, nf, nl⟩ := hNx) | skip); have u0 := ST2.2.2.1.1; have u1 := ST2.2.2.1.2.1; have u2 := ST2.2.2.1.2.2.1))
          all_goals
            rename_i hHeld
            clear hHeld
            go_wp2_with fail
            go_meet
            first
              | exact ⟨_, p2, _, _, A2, c2, _, _, rfl, rfl, by omega, ST2.keep (alloc_below _ _), candA _ o2 (by first | omega | (simp; omega)) (by first | omega | (simp; omega)) (by omega) sd_ok⟩
              | exact ⟨_, p2, _, _, A2, c2, _, _, rfl, rfl, by omega, ST2.store (by omega) (by omega) (by omega) (fun g hg => by have := hold5 g hg; omega) _ _ _, candB hNn o2 (by first | omega | (simp; omega)) (by first | omega | (simp; omega)) hq (by omega) sd_ok⟩
        case rest =>
          obtain ⟨G5, p2, X, Y, A2, c2, L, k, rfl, rfl, hp2, ST, cd⟩ := hcut
          clear s0 s1 s2 sf sl
          generalize wc = w6 at *
          rcases Bool.eq_false_or_eq_true k with hk | hk
          · rw [hk]
            have hv := cd.2.1 hk
            have Hn := Lib.hid (ChSt.put ST hRG hwG hv cd.2.2.1 cd.2.2.2.1)
            have c1 := cd.1
            have c2 := ST.2.2.1
            obtain ⟨n0, n1, n2, nf, nl⟩ := c1
            obtain ⟨q0, q1, q2, qf, ql⟩ := c2
            clear hk hv ST cd st5
            go_wp2
            go_roundw
            case rel => exact ⟨m, p2, _, _, _, _, _, by omega, by go_num, by omega, Hn.out⟩
            case measure => first | (simp [intOf]; done) | (simp [intOf]; omega)
          · rw [hk]
            have Hn := Lib.hid ST
            clear hk ST cd st5
            go_wp2
            go_roundw
            case rel => exact ⟨m, p2, _, _, _, _, _, by omega, by go_num, by omega, Hn.out⟩
            case measure => first | (simp [intOf]; done) | (simp [intOf]; omega)
      · go_wp2_with fail
        refine (specTk_any x y A c l _ (st5.2.2.2.2.1.row ItemR.enc_len) st5.2.2.2.2.1.lenCap).mono ?_
        rintro e v2 ⟨A2, c2, rfl, o2, b2⟩
        clear s0 s1 s2 sf sl
        have zv2 := b2.size
        have ST := ((st5.keep b2).keep (alloc_below v2 (.cells #[.int .i64 (tkX x y l), .int .i64 (tkY x y l), .slice A2 ((tkL x y l)).length c2] 26))).keep (alloc_below _ (.cells #[.int .i64 (tkI x y l).a0, .int .i64 (tkI x y l).a1] 32))
        have cd := Cand.keep (show Cand w (v2.alloc (.cells #[.int .i64 (tkX x y l), .int .i64 (tkY x y l), .slice A2 ((tkL x y l)).length c2] 26)) w2.heap.size v2.heap.size (tkX x y l) (tkY x y l) A2 c2 (tkL x y l) (tkK x y l) from candA _ o2 (by omega) (by omega) (by omega) tk_ok) (alloc_below _ (.cells #[.int .i64 (tkI x y l).a0, .int .i64 (tkI x y l).a1] 32))
        clear b2 o2
        have p2e : p' + 1 ≤ p' + 4 := by omega
        obtain ⟨p2, hp2e⟩ : ∃ p2, p2 = p' + 1 := ⟨_, rfl⟩
        rw [← hp2e] at ST
        have hp2 : p2 ≤ p' + 4 := by omega
        clear hp2e p2e
        generalize (tkK x y l) = k at *
        rcases Bool.eq_false_or_eq_true k with hk | hk
        · rw [hk]
          have hv := cd.2.1 hk
          have Hn := Lib.hid (ChSt.put ST hRG hwG hv cd.2.2.1 cd.2.2.2.1)
          have c1 := cd.1
          have c2 := ST.2.2.1
          obtain ⟨n0, n1, n2, nf, nl⟩ := c1
          obtain ⟨q0, q1, q2, qf, ql⟩ := c2
          clear hk hv ST cd st5
          go_wp2
          go_roundw
          case rel => exact ⟨m, p2, _, _, _, _, _, by omega, by go_num, by omega, Hn.out⟩
          case measure => first | (simp [intOf]; done) | (simp [intOf]; omega)
        · rw [hk]
          have Hn := Lib.hid ST
          clear hk ST cd st5
          go_wp2
          go_roundw
          case rel => exact ⟨m, p2, _, _, _, _, _, by omega, by go_num, by omega, Hn.out⟩
          case measure => first | (simp [intOf]; done) | (simp [intOf]; omega)
      · go_wp2_with fail
        refine (specGc_any x y A c l _ (st5.2.2.2.2.1.row ItemR.enc_len)).mono ?_
        rintro e v2 ⟨A2, c2, rfl, o2, b2⟩
        clear s0 s1 s2 sf sl
        have zv2 := b2.size
        have ST := (st5.keep b2).keep (alloc_below v2 (.cells #[.int .i64 (gc x y l).1, .int .i64 (gc x y l).2.1, .slice A2 ((gc x y l).2.2.1).length c2] 26))
        have cd : Cand w (v2.alloc (.cells #[.int .i64 (gc x y l).1, .int .i64 (gc x y l).2.1, .slice A2 ((gc x y l).2.2.1).length c2] 26)) w2.heap.size v2.heap.size (gc x y l).1 (gc x y l).2.1 A2 c2 (gc x y l).2.2.1 (gc x y l).2.2.2 := candA _ o2 (by omega) (by omega) (by omega) gc_ok
        clear b2 o2
        have p2e : p' + 1 ≤ p' + 4 := by omega
        obtain ⟨p2, hp2e⟩ : ∃ p2, p2 = p' + 1 := ⟨_, rfl⟩
        rw [← hp2e] at ST
        have hp2 : p2 ≤ p' + 4 := by omega
        clear hp2e p2e
        generalize (gc x y l).2.2.2 = k at *
        rcases Bool.eq_false_or_eq_true k with hk | hk
        · rw [hk]
          have hv := cd.2.1 hk
          have Hn := Lib.hid (ChSt.put ST hRG hwG hv cd.2.2.1 cd.2.2.2.1)
          have c1 := cd.1
          have c2 := ST.2.2.1
          obtain ⟨n0, n1, n2, nf, nl⟩ := c1
          obtain ⟨q0, q1, q2, qf, ql⟩ := c2
          clear hk hv ST cd st5
          go_wp2
          go_roundw
          case rel => exact ⟨m, p2, _, _, _, _, _, by omega, by go_num, by omega, Hn.out⟩
          case measure => first | (simp [intOf]; done) | (simp [intOf]; omega)
        · rw [hk]
          have Hn := Lib.hid ST
          clear hk ST cd st5
          go_wp2
          go_roundw
          case rel => exact ⟨m, p2, _, _, _, _, _, by omega, by go_num, by omega, Hn.out⟩
          case measure => first | (simp [intOf]; done) | (simp [intOf]; omega)
end Go.Proofs.Ytcpjidbinhfapab
