import Derived.Test.YtmbhpnjhhhcjiaaBase
namespace Go.Proofs.Ytmbhpnjhhhcjiaa
open Go.RowKit

/-- A reader in block R: its bytes and its place. -/
def Rd (w : World) (R : Nat) (p : Nat) : Prop :=
  p ≤ 1000000000 ∧ ∃ (a : Option Addr) (n c : Nat), w.heap[R]? = some (.cells #[.slice a n c, .int .i64 p] 86 (0, 0)) ∧ n ≤ 2000 ∧
    (0 < n → ∃ (b off : Nat) (z : Nat → Int), a = some ⟨b, off, none⟩ ∧ b < R ∧ ∀ i, i < n → w.cell? ⟨b, off + i, none⟩ = some (.int .u8 (z i)) ∧ 0 ≤ z i ∧ z i ≤ 255)
def PickPost (w : World) (R p : Nat) (m : Int) (e : Ending) (w' : World) : Prop :=
  ∃ v : Int, e = .returned (.int .i64 v) ∧ 0 ≤ v ∧ (0 < m → v < m) ∧ (m ≤ 0 → v = 0) ∧ Rd w' R (p + 1) ∧ w.grownBy w' (some R) ∧ w'.heap.size = w.heap.size
theorem rd_step {w : World} {R p k : Nat} (h : Rd w R p) (hp : p + 1 ≤ 1000000000) :
    Rd ((w.drewN k).setCell ⟨R, 1, none⟩ (.int .i64 ((p : Int) + 1))) R (p + 1) ∧ w.grownBy ((w.drewN k).setCell ⟨R, 1, none⟩ (.int .i64 ((p : Int) + 1))) (some R) := by
  obtain ⟨_, a, n, c, hb, hn, hz⟩ := h
  refine ⟨⟨hp, a, n, c, ?_, hn, fun h0 => ?_⟩, rfl, rfl, rfl, by simp [World.setCell], fun i hi hne => Below.heap_setCell _ _ _ _ (fun e => hne (by rw [e]))⟩
  · show ((w.drewN k).setCell ⟨R, 1, none⟩ (.int .i64 ((p : Int) + 1))).heap[R]? = _
    have hb' : (w.drewN k).heap[R]? = some (.cells #[.slice a n c, .int .i64 p] 86 (0, 0)) := hb
    simp only [World.setCell, Array.getElem?_modify, if_true, hb', Option.map_some]
    rfl
  · obtain ⟨b, off, z, ha, hlt, hc⟩ := hz h0
    refine ⟨b, off, z, ha, hlt, fun i hi => ⟨?_, (hc i hi).2⟩⟩
    rw [World.cell?_setCell_other _ _ _ _ (fun e => by injection e; omega)]
    exact (hc i hi).1
theorem post_pick {w : World} {R p k : Nat} {m v : Int} (h : Rd w R p) (hp : p + 1 ≤ 1000000000) (h0 : 0 ≤ v) (h1 : 0 < m → v < m) (h2 : m ≤ 0 → v = 0) :
    PickPost w R p m (.returned (.int .i64 v)) ((w.drewN k).setCell ⟨R, 1, none⟩ (.int .i64 ((p : Int) + 1))) :=
  ⟨v, rfl, h0, h1, h2, (rd_step h hp).1, (rd_step h hp).2, by simp [World.setCell]⟩
set_option maxHeartbeats 400000 in
theorem pick_neg (m : Int) (w : World) (R p : Nat) (h : Rd w R p) (hp : p + 1 ≤ 1000000000) (hm : m < 1) :
    Calls Try.prog 56 #[.pointer (some ⟨R, 0, none⟩), .int .i64 m] w (PickPost w R p m) := by
  obtain ⟨a, n, c, hb, hn, hz⟩ := h.2
  have c0 := cell_of_row w R 0 _ _ _ hb
  have c1 := cell_of_row w R 1 _ _ _ hb
  have f1 : w.frozen? ⟨R, 1, none⟩ = false := by simp [World.frozen?, hb]
  simp at c0 c1
  have H := Lib.hid (post_pick (k := 0) (v := 0) h hp (by omega) (fun _ => by omega : 0 < m → (0 : Int) < m) (fun _ => rfl))
  clear h hz hb
  go_enter Try.func56, Try.ntmps56
  go_wp2
  go_ret
  exact H.out
set_option maxHeartbeats 400000 in
theorem pick_nil (m : Int) (w : World) (R p : Nat) (h : Rd w R p) (hp : p + 1 ≤ 1000000000) (hm : 1 ≤ m) (a : Option Addr) (c : Nat) (hb : w.heap[R]? = some (.cells #[.slice a 0 c, .int .i64 p] 86 (0, 0))) :
    Calls Try.prog 56 #[.pointer (some ⟨R, 0, none⟩), .int .i64 m] w (PickPost w R p m) := by
  have c0 := cell_of_row w R 0 _ _ _ hb
  have c1 := cell_of_row w R 1 _ _ _ hb
  have f1 : w.frozen? ⟨R, 1, none⟩ = false := by simp [World.frozen?, hb]
  simp at c0 c1
  have H := Lib.hid (post_pick (k := 0) (v := 0) h hp (by omega) (fun _ => by omega : 0 < m → (0 : Int) < m) (fun _ => rfl))
  clear h hb
  go_enter Try.func56, Try.ntmps56
  go_wp2
  go_ret
  exact H.out
set_option maxHeartbeats 400000 in
theorem pick_first (m : Int) (w : World) (R p : Nat) (h : Rd w R p) (hp : p + 1 ≤ 1000000000) (hm : 1 ≤ m) (hm' : m ≤ 9223372036854775807) (n c b off : Nat) (z : Int) (hb : w.heap[R]? = some (.cells #[.slice (some ⟨b, off, none⟩) n c, .int .i64 p] 86 (0, 0)))
    (_hn : n ≤ 2000) (hlt : p < n) (hbR : b < R) (hc : w.cell? ⟨b, off + p, none⟩ = some (.int .u8 z)) (hz0 : 0 ≤ z) (hz1 : z ≤ 255) :
    Calls Try.prog 56 #[.pointer (some ⟨R, 0, none⟩), .int .i64 m] w (PickPost w R p m) := by
  have c0 := cell_of_row w R 0 _ _ _ hb
  have c1 := cell_of_row w R 1 _ _ _ hb
  have f1 : w.frozen? ⟨R, 1, none⟩ = false := by simp [World.frozen?, hb]
  simp at c0 c1
  have hne : ((n : Int) == 0) = false := by simp; omega
  obtain ⟨m0, m1, m2⟩ := mod_facts z m hz0 hm
  have H := Lib.hid (post_pick (k := 0) (v := z % m) h hp m0 m1 m2)
  clear h hb m0 m1 m2
  go_enter Try.func56, Try.ntmps56
  go_wp2
  go_ret
  exact H.out
set_option maxHeartbeats 1000000 in
theorem pick_far (m : Int) (w : World) (R p : Nat) (h : Rd w R p) (hp : p + 1 ≤ 1000000000) (hm : 1 ≤ m) (hm' : m ≤ 9223372036854775807) (n c b off : Nat) (z1 z2 : Int) (hb : w.heap[R]? = some (.cells #[.slice (some ⟨b, off, none⟩) n c, .int .i64 p] 86 (0, 0)))
    (hn : n ≤ 2000) (hn0 : 0 < n) (hlt : n ≤ p) (hbR : b < R) (hc1 : w.cell? ⟨b, off + p % n, none⟩ = some (.int .u8 z1)) (hz1 : 0 ≤ z1) (hz1' : z1 ≤ 255)
    (q : Nat) (hq : ((p : Int) * 7 + 3) % (n : Int) = (q : Int)) (i2 : q < n) (hc2 : w.cell? ⟨b, off + q, none⟩ = some (.int .u8 z2)) (hz2 : 0 ≤ z2) (hz2' : z2 ≤ 255) :
    Calls Try.prog 56 #[.pointer (some ⟨R, 0, none⟩), .int .i64 m] w (PickPost w R p m) := by
  have c0 := cell_of_row w R 0 _ _ _ hb
  have c1 := cell_of_row w R 1 _ _ _ hb
  have f1 : w.frozen? ⟨R, 1, none⟩ = false := by simp [World.frozen?, hb]
  simp at c0 c1
  have hne : ((n : Int) == 0) = false := by simp; omega
  have i1 : p % n < n := Nat.mod_lt _ hn0
  obtain ⟨d, hd⟩ : ∃ d : Nat, (p : Int) / (n : Int) = (d : Int) := ⟨p / n, rfl⟩
  have hdp : d ≤ p := by
    have : d = p / n := by exact Int.ofNat.inj hd.symm
    rw [this]; exact Nat.div_le_self _ _
  obtain ⟨x, hx⟩ : ∃ x : Nat, z1 * 131 + z2 * 1117 + (p : Int) * 29 + (d : Int) * 53 = (x : Int) := ⟨(z1 * 131 + z2 * 1117 + (p : Int) * 29 + (d : Int) * 53).toNat, by omega⟩
  obtain ⟨y, hy⟩ : ∃ y : Nat, (x : Int) / 64 = (y : Int) := ⟨x / 64, rfl⟩
  have hxl : x ≤ 1000000000000 := by omega
  have hyl : y ≤ 1000000000000 := by omega
  obtain ⟨t, ht, ht'⟩ : ∃ t : Nat, bits .xor .i64 (x : Int) (y : Int) = (t : Int) ∧ t < 9223372036854775808 :=
    ⟨x ^^^ y, i64_xor_nat x y (by omega) (by omega), by have : x ^^^ y < 2 ^ 63 := Nat.xor_lt_two_pow (by omega) (by omega); omega⟩
  have tl : (t : Int) ≤ 9223372036854775807 := by omega
  obtain ⟨m0, m1, m2⟩ := mod_facts (t : Int) m (by omega) hm
  have H := fun k => Lib.hid (post_pick (k := k) (v := (t : Int) % m) h hp m0 m1 m2)
  clear hb h m0 m1 m2 ht'
  go_enter Try.func56, Try.ntmps56
  go_wp2
  refine wp_region_quiet_lit (by kernel_rfl) (by kernel_rfl) ?_
  repeat (first | go_big_quiet_step (fail) | quiet_step (fail))
  refine wpQuiet_nil ?_
  intro _ hw'
  obtain ⟨nq, hw''⟩ := hw'
  subst hw''
  go_wp2
  go_ret
  exact (H _).out
theorem pick_any (m : Int) (w : World) (R p : Nat) (h : Rd w R p) (hp : p + 1 ≤ 1000000000) (hm' : m ≤ 9223372036854775807) :
    Calls Try.prog 56 #[.pointer (some ⟨R, 0, none⟩), .int .i64 m] w (PickPost w R p m) := by
  by_cases hm : m < 1
  · exact pick_neg m w R p h hp hm
  · obtain ⟨a, n, c, hb, hn, hz⟩ := h.2
    by_cases h0 : n = 0
    · subst h0
      exact pick_nil m w R p h hp (by omega) a c hb
    · obtain ⟨b, off, z, rfl, hbR, hc⟩ := hz (by omega)
      by_cases hlt : p < n
      · exact pick_first m w R p h hp (by omega) hm' n c b off (z p) hb hn hlt hbR (hc p hlt).1 (hc p hlt).2.1 (hc p hlt).2.2
      · have i1 : p % n < n := Nat.mod_lt _ (by omega)
        have i2 : (p * 7 + 3) % n < n := Nat.mod_lt _ (by omega)
        exact pick_far m w R p h hp (by omega) hm' n c b off (z (p % n)) (z ((p * 7 + 3) % n)) hb hn (by omega) (by omega) hbR (hc _ i1).1 (hc _ i1).2.1 (hc _ i1).2.2
          ((p * 7 + 3) % n) rfl i2 (hc _ i2).1 (hc _ i2).2.1 (hc _ i2).2.2
theorem rd_lt {w : World} {R p : Nat} (h : Rd w R p) : R < w.heap.size := by
  obtain ⟨_, a, n, c, hb, _⟩ := h
  rcases Nat.lt_or_ge R w.heap.size with hlt | hge
  · exact hlt
  · rw [Array.getElem?_eq_none hge] at hb; cases hb
/-- The reader stays as it is behind whatever turns no block up to R. -/
theorem rd_keep {w w' : World} {R p : Nat} (h : Rd w R p) (hk : ∀ k, k ≤ R → w'.heap[k]? = w.heap[k]?) : Rd w' R p := by
  obtain ⟨hp, a, n, c, hb, hn, hz⟩ := h
  refine ⟨hp, a, n, c, (hk R (Nat.le_refl _)).trans hb, hn, fun h0 => ?_⟩
  obtain ⟨b, off, z, ha, hlt, hc⟩ := hz h0
  exact ⟨b, off, z, ha, hlt, fun i hi => ⟨(World.cell?_of_block (hk b (by omega))).trans (hc i hi).1, (hc i hi).2⟩⟩
theorem rd_alloc {w : World} {R p : Nat} (h : Rd w R p) (o : Obj) : Rd (w.alloc o) R p :=
  rd_keep h fun _ hk => Below.heap_alloc _ _ _ (by have := rd_lt h; omega)
theorem rd_setCell {w : World} {R p : Nat} (h : Rd w R p) {a : Addr} (ha : R < a.block) (u : Value) : Rd (w.setCell a u) R p :=
  rd_keep h fun _ hk => Below.heap_setCell _ _ _ _ (by omega)
theorem rd_drewN {w : World} {R p : Nat} (h : Rd w R p) (k : Nat) : Rd (w.drewN k) R p := h
theorem rd_drew {w : World} {R p : Nat} (h : Rd w R p) : Rd w.drew R p := h
def OnePost (w : World) (R p : Nat) (n : Nat) (xs : Nat → Int) (e : Ending) (w' : World) : Prop :=
  ∃ i, i < n ∧ e = .returned (.int .i64 (xs i)) ∧ Rd w' R (p + 1) ∧ w.grownBy w' (some R) ∧ w'.heap.size = w.heap.size
set_option maxHeartbeats 400000 in
theorem one_any (w : World) (R p : Nat) (h : Rd w R p) (hp : p + 1 ≤ 1000000000) (b off n c : Nat) (xs : Nat → Int) (hn : 0 < n) (hn' : n ≤ 1000) (hbl : b < w.heap.size) (hne : b ≠ R)
    (hc : ∀ i, i < n → w.cell? ⟨b, off + i, none⟩ = some (.int .i64 (xs i))) :
    Calls Try.prog 66 #[.pointer (some ⟨R, 0, none⟩), .slice (some ⟨b, off, none⟩) n c] w (OnePost w R p n xs) := by
  have HC := Lib.hid hc
  clear hc
  go_enter Try.func66, Try.ntmps66
  go_wp2_with fail
  refine (pick_any _ _ R p h hp (by omega)).mono ?_
  rintro e w1 ⟨v, rfl, v0, v1, _, hr, hg, hsz⟩
  obtain ⟨i, rfl⟩ := Int.eq_ofNat_of_zero_le v0
  have hi : i < n := by have := v1 (by omega); omega
  have hci := ((grown_cells hg).1 b (off + i) hbl hne).trans (HC.out i hi)
  have H := Lib.hid (⟨i, hi, rfl, hr, hg, hsz⟩ : OnePost w R p n xs (.returned (.int .i64 (xs i))) w1)
  clear HC hr hg hsz v1 h
  go_wp2
  go_ret
  exact H.out
def EvPost (w : World) (R p d : Nat) (lo hi : Int) (e : Ending) (w' : World) : Prop :=
  ∃ (t k v : Int) (p' : Nat), e = .returned (.agg #[.int .i64 t, .int .i64 k, .int .i64 v]) ∧ lo ≤ t ∧ t ≤ hi ∧ lo ≤ k ∧ k ≤ hi ∧ lo ≤ v ∧ v ≤ hi ∧ p' ≤ p + d ∧ Rd w' R p' ∧ Gr w w' R
set_option maxHeartbeats 400000 in
theorem randomEvent_any (w : World) (R p : Nat) (h : Rd w R p) (hp : p + 3 ≤ 1000000000) :
    Calls Try.prog 80 #[.pointer (some ⟨R, 0, none⟩)] w (EvPost w R p 3 0 49) := by
  have hR := rd_lt h
  have h' := rd_alloc h (.cells #[.int .i64 0, .int .i64 0, .int .i64 0] 24)
  go_enter Try.func80, Try.ntmps80
  go_wp2_with fail
  refine (pick_any _ _ R p h' (by omega) (by omega)).mono ?_
  rintro e w1 ⟨t, rfl, t0, t1, _, hr1, hg1, hs1⟩
  go_wp2_with fail
  refine (pick_any _ _ R (p + 1) hr1 (by omega) (by omega)).mono ?_
  rintro e w2 ⟨k, rfl, k0, k1, _, hr2, hg2, hs2⟩
  go_wp2_with fail
  refine (pick_any _ _ R (p + 2) hr2 (by omega) (by omega)).mono ?_
  rintro e w3 ⟨v, rfl, v0, v1, _, hr3, hg3, hs3⟩
  have hs : w3.heap.size = w.heap.size + 1 := by rw [hs3, hs2, hs1]; simp
  have hb3 : w3.heap[w.heap.size]? = some (.cells #[.int .i64 0, .int .i64 0, .int .i64 0] 24 (0, 0)) := by
    rw [hg3.block _ (by omega) (fun e => by injection e; omega), hg2.block _ (by rw [hs1]; simp) (fun e => by injection e; omega), hg1.block _ (by simp) (fun e => by injection e; omega)]
    exact heap_alloc_new _ _
  have q0 := cell_of_row w3 w.heap.size 0 _ _ _ hb3
  have q1 := cell_of_row w3 w.heap.size 1 _ _ _ hb3
  have q2 := cell_of_row w3 w.heap.size 2 _ _ _ hb3
  simp at q0 q1 q2
  have f0 : ∀ o, w3.frozen? ⟨w.heap.size, o, none⟩ = false := fun o => by simp [World.frozen?, hb3]
  clear hb3 h h' hr1 hr2
  go_wp2
  refine bodyPost_ret (v := .agg #[.int .i64 t, .int .i64 k, .int .i64 v]) (by simp [results, Try.results80, go_sem, q0, q1, q2]) rfl ?_
  refine ⟨t, k, v, p + 3, rfl, by omega, by omega, by omega, by omega, by omega, by omega, Nat.le_refl _, ?_, ?_⟩
  · exact rd_setCell (rd_setCell (rd_setCell hr3 hR _) hR _) hR _
  · exact gr_setCell (gr_setCell (gr_setCell (gr_trans (gr_trans (gr_trans (gr_alloc (gr_refl w R) _) hg1) hg2) hg3) (Nat.le_refl _) _) (Nat.le_refl _) _) (Nat.le_refl _) _
def One3Post (w : World) (R p : Nat) (x y z : Int) (e : Ending) (w' : World) : Prop :=
  ∃ v : Int, (v = x ∨ v = y ∨ v = z) ∧ e = .returned (.int .i64 v) ∧ Rd w' R (p + 1) ∧ Gr w w' R
def pick3 (x y z : Int) (i : Nat) : Int := if i = 0 then x else if i = 1 then y else z
theorem one3_any (w : World) (R p : Nat) (h : Rd w R p) (hp : p + 1 ≤ 1000000000) (b : Nat) (x y z : Int) (hb : w.heap[b]? = some (.cells #[.int .i64 x, .int .i64 y, .int .i64 z] 3 (0, 0))) (hne : b ≠ R) :
    Calls Try.prog 66 #[.pointer (some ⟨R, 0, none⟩), .slice (some ⟨b, 0, none⟩) 3 3] w (One3Post w R p x y z) := by
  obtain ⟨l0, l1, l2, _, ll⟩ := blk3 hb
  refine (one_any w R p h hp b 0 3 3 (pick3 x y z) (by omega) (by omega) ll hne ?_).mono ?_
  · intro i hi
    rcases (show i = 0 ∨ i = 1 ∨ i = 2 by omega) with hj | hj | hj
    · rw [hj]; exact l0
    · rw [hj]; exact l1
    · rw [hj]; exact l2
  · rintro e w' ⟨i, hi, rfl, hr, hg, _⟩
    refine ⟨pick3 x y z i, ?_, rfl, hr, hg⟩
    unfold pick3
    split
    · exact .inl rfl
    · split
      · exact .inr (.inl rfl)
      · exact .inr (.inr rfl)
set_option maxHeartbeats 4000000 in
theorem anyEvent_any (w : World) (R p : Nat) (h : Rd w R p) (hp : p + 5 ≤ 1000000000) :
    Calls Try.prog 49 #[.pointer (some ⟨R, 0, none⟩)] w (EvPost w R p 5 (-1) 1000) := by
  have hR := rd_lt h
  have hS0 := heap_alloc_new w (.cells #[.int .i64 0, .int .i64 0, .int .i64 0] 24)
  have h' := rd_alloc h (.cells #[.int .i64 0, .int .i64 0, .int .i64 0] 24)
  have g0 := gr_alloc (gr_refl w R) (.cells #[.int .i64 0, .int .i64 0, .int .i64 0] 24)
  go_enter Try.func49, Try.ntmps49
  go_wp2_with fail
  refine (randomEvent_any _ R p h' (by omega)).mono ?_
  rintro e w1 ⟨t, k, v, p1, rfl, ht0, ht1, hk0, hk1, hv0, hv1, hp1, hr1, hg1⟩
  have hS1 := gr_blk hg1 hS0 (by omega)
  have hlt1 : w.heap.size < w1.heap.size := (blk3 hS1).2.2.2.2
  have g1 := gr_trans g0 hg1
  clear hS0 h' h g0 hg1
  have hE2 := heap_alloc_new w1 (.cells #[.int .i64 t, .int .i64 k, .int .i64 v] 24)
  have hS2 := alloc_blk (.cells #[.int .i64 t, .int .i64 k, .int .i64 v] 24) hS1
  have hr2 := rd_alloc hr1 (.cells #[.int .i64 t, .int .i64 k, .int .i64 v] 24)
  have g2 := gr_alloc g1 (.cells #[.int .i64 t, .int .i64 k, .int .i64 v] 24)
  clear hS1 hr1 g1
  go_wp2_with fail
  refine (pick_any _ _ R p1 hr2 (by omega) (by omega)).mono ?_
  rintro e w3 ⟨x, rfl, x0, x1, -, hr3, hg3, -⟩
  have hE3 := gr_blk hg3 hE2 (by omega)
  have hS3 := gr_blk hg3 hS2 (by omega)
  have g3 := gr_trans g2 hg3
  clear hE2 hS2 hr2 g2 hg3
  have hlt3 : w1.heap.size < w3.heap.size := (blk3 hE3).2.2.2.2
  rcases (show x = 0 ∨ x = 1 ∨ x = 2 ∨ 2 < x by omega) with hx | hx | hx | hx
  · subst hx
    have hE4 := alloc_blk (.cells #[.int .i64 (-1), .int .i64 999, .int .i64 1000] 3) hE3
    have hS4 := alloc_blk (.cells #[.int .i64 (-1), .int .i64 999, .int .i64 1000] 3) hS3
    have hL4 := heap_alloc_new w3 (.cells #[.int .i64 (-1), .int .i64 999, .int .i64 1000] 3)
    have hr4 := rd_alloc hr3 (.cells #[.int .i64 (-1), .int .i64 999, .int .i64 1000] 3)
    have g4 := gr_alloc g3 (.cells #[.int .i64 (-1), .int .i64 999, .int .i64 1000] 3)
    obtain ⟨l0, l1, l2, lf, ll⟩ := blk3 hL4
    clear hS3 hr3 g3 hE3
    go_wp2_with fail
    refine (one3_any _ R (p1 + 1) hr4 (by omega) w3.heap.size (-1) 999 1000 hL4 (by omega)).mono ?_
    rintro e w5 ⟨y, hy, rfl, hr5, hg5⟩
    have hy0 : -1 ≤ y := by omega
    have hy1 : y ≤ 1000 := by omega
    clear hy l0 l1 l2 lf
    have hE5 := gr_blk hg5 hE4 (by omega)
    have hS5 := gr_blk hg5 hS4 (by omega)
    have g5 := gr_trans g4 hg5
    clear hE4 hS4 hL4 hr4 g4 hg5
    obtain ⟨e0, e1, e2, ef, el⟩ := blk3 hE5
    obtain ⟨s0, s1, s2, sf, sl⟩ := blk3 hS5
    have hne : w.heap.size ≠ w1.heap.size := by omega
    clear hE5 hS5
    go_wp2
    refine bodyPost_ret (v := .agg #[.int .i64 y, .int .i64 k, .int .i64 v]) (by simp [results, Try.results49, go_sem, s0, s1, s2]) rfl ?_
    refine ⟨y, k, v, p1 + 1 + 1, rfl, by omega, by omega, by omega, by omega, by omega, by omega, by omega, ?_, ?_⟩
    · repeat (first | exact hr5 | refine rd_setCell ?_ (by first | exact hR | (simp; omega)) _)
    · repeat (first | exact g5 | refine gr_setCell ?_ (by first | exact Nat.le_refl _ | (simp; omega)) _)
  · subst hx
    have hE4 := alloc_blk (.cells #[.int .i64 (-1), .int .i64 15, .int .i64 16] 3) hE3
    have hS4 := alloc_blk (.cells #[.int .i64 (-1), .int .i64 15, .int .i64 16] 3) hS3
    have hL4 := heap_alloc_new w3 (.cells #[.int .i64 (-1), .int .i64 15, .int .i64 16] 3)
    have hr4 := rd_alloc hr3 (.cells #[.int .i64 (-1), .int .i64 15, .int .i64 16] 3)
    have g4 := gr_alloc g3 (.cells #[.int .i64 (-1), .int .i64 15, .int .i64 16] 3)
    obtain ⟨l0, l1, l2, lf, ll⟩ := blk3 hL4
    clear hS3 hr3 g3 hE3
    go_wp2_with fail
    refine (one3_any _ R (p1 + 1) hr4 (by omega) w3.heap.size (-1) 15 16 hL4 (by omega)).mono ?_
    rintro e w5 ⟨y, hy, rfl, hr5, hg5⟩
    have hy0 : -1 ≤ y := by omega
    have hy1 : y ≤ 1000 := by omega
    clear hy l0 l1 l2 lf
    have hE5 := gr_blk hg5 hE4 (by omega)
    have hS5 := gr_blk hg5 hS4 (by omega)
    have g5 := gr_trans g4 hg5
    clear hE4 hS4 hL4 hr4 g4 hg5
    obtain ⟨e0, e1, e2, ef, el⟩ := blk3 hE5
    obtain ⟨s0, s1, s2, sf, sl⟩ := blk3 hS5
    have hne : w.heap.size ≠ w1.heap.size := by omega
    clear hE5 hS5
    go_wp2
    refine bodyPost_ret (v := .agg #[.int .i64 t, .int .i64 y, .int .i64 v]) (by simp [results, Try.results49, go_sem, s0, s1, s2]) rfl ?_
    refine ⟨t, y, v, p1 + 1 + 1, rfl, by omega, by omega, by omega, by omega, by omega, by omega, by omega, ?_, ?_⟩
    · repeat (first | exact hr5 | refine rd_setCell ?_ (by first | exact hR | (simp; omega)) _)
    · repeat (first | exact g5 | refine gr_setCell ?_ (by first | exact Nat.le_refl _ | (simp; omega)) _)
  · subst hx
    have hE4 := alloc_blk (.cells #[.int .i64 (-1), .int .i64 99, .int .i64 100] 3) hE3
    have hS4 := alloc_blk (.cells #[.int .i64 (-1), .int .i64 99, .int .i64 100] 3) hS3
    have hL4 := heap_alloc_new w3 (.cells #[.int .i64 (-1), .int .i64 99, .int .i64 100] 3)
    have hr4 := rd_alloc hr3 (.cells #[.int .i64 (-1), .int .i64 99, .int .i64 100] 3)
    have g4 := gr_alloc g3 (.cells #[.int .i64 (-1), .int .i64 99, .int .i64 100] 3)
    obtain ⟨l0, l1, l2, lf, ll⟩ := blk3 hL4
    clear hS3 hr3 g3 hE3
    go_wp2_with fail
    refine (one3_any _ R (p1 + 1) hr4 (by omega) w3.heap.size (-1) 99 100 hL4 (by omega)).mono ?_
    rintro e w5 ⟨y, hy, rfl, hr5, hg5⟩
    have hy0 : -1 ≤ y := by omega
    have hy1 : y ≤ 1000 := by omega
    clear hy l0 l1 l2 lf
    have hE5 := gr_blk hg5 hE4 (by omega)
    have hS5 := gr_blk hg5 hS4 (by omega)
    have g5 := gr_trans g4 hg5
    clear hE4 hS4 hL4 hr4 g4 hg5
    obtain ⟨e0, e1, e2, ef, el⟩ := blk3 hE5
    obtain ⟨s0, s1, s2, sf, sl⟩ := blk3 hS5
    have hne : w.heap.size ≠ w1.heap.size := by omega
    clear hE5 hS5
    go_wp2
    refine bodyPost_ret (v := .agg #[.int .i64 t, .int .i64 k, .int .i64 y]) (by simp [results, Try.results49, go_sem, s0, s1, s2]) rfl ?_
    refine ⟨t, k, y, p1 + 1 + 1, rfl, by omega, by omega, by omega, by omega, by omega, by omega, by omega, ?_, ?_⟩
    · repeat (first | exact hr5 | refine rd_setCell ?_ (by first | exact hR | (simp; omega)) _)
    · repeat (first | exact g5 | refine gr_setCell ?_ (by first | exact Nat.le_refl _ | (simp; omega)) _)
  · obtain ⟨e0, e1, e2, ef, el⟩ := blk3 hE3
    obtain ⟨s0, s1, s2, sf, sl⟩ := blk3 hS3
    have n0 : (x == 0) = false := by simp; omega
    have n1 : (x == 1) = false := by simp; omega
    have n2 : (x == 2) = false := by simp; omega
    clear hE3 hS3
    go_wp2
    refine bodyPost_ret (v := .agg #[.int .i64 t, .int .i64 k, .int .i64 v]) (by simp [results, Try.results49, go_sem, s0, s1, s2]) rfl ?_
    refine ⟨t, k, v, p1 + 1, rfl, by omega, by omega, by omega, by omega, by omega, by omega, by omega, ?_, ?_⟩
    · repeat (first | exact hr3 | refine rd_setCell ?_ (by first | exact hR | (simp; omega)) _)
    · repeat (first | exact g3 | refine gr_setCell ?_ (by first | exact Nat.le_refl _ | (simp; omega)) _)

end Go.Proofs.Ytmbhpnjhhhcjiaa
