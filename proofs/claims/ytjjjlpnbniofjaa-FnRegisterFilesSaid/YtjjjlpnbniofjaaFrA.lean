import Derived.Test.YtjjjlpnbniofjaaFrLI
namespace Go.Proofs.Ytjjjlpnbniofjaa
open Go.RowKit
theorem rgF_valid {l : List FileRefR} {fs : List Int} (h : rgK l fs = true) : vRefs (rgF l fs) = true := by
  rw [rgF_ok h]; exact cnt_valid (fun f => (rgN_bd h f).2)
theorem rgK_v {l : List FileRefR} {fs : List Int} (h : rgK l fs = true) : vRefs l = true ∧ vFiles fs = true := by
  unfold rgK at h
  rw [Bool.and_eq_true, Bool.and_eq_true] at h
  exact h.1
theorem rlK_v {l : List FileRefR} {fs : List Int} (h : rlK l fs = true) : vRefs l = true ∧ vFiles fs = true := by
  unfold rlK at h
  rw [Bool.and_eq_true, Bool.and_eq_true] at h
  exact h.1
theorem rgF_cnt {l : List FileRefR} {fs : List Int} (h : rgK l fs = true) (f : Int) : refC (rgF l fs) f = refC l f + inN fs f := by
  rw [rgF_ok h, refC_cnt (rgN_bd h f).1 (fun hf => rgN_out (by rw [(rgK_v h).1, (rgK_v h).2]; rfl) hf)]; rfl
theorem rlF_valid {l : List FileRefR} {fs : List Int} (h : rlK l fs = true) : vRefs (rlF l fs) = true := by
  rw [(rlF_ok h).1]; exact cnt_valid (fun f => (rlN_bd h f).2)
theorem rlF_cnt {l : List FileRefR} {fs : List Int} (h : rlK l fs = true) (f : Int) : refC (rlF l fs) f = refC l f - inN fs f := by
  rw [(rlF_ok h).1, refC_cnt (rlN_bd h f).1 (fun hf => rlN_out (by rw [(rlK_v h).1, (rlK_v h).2]; rfl) hf)]; rfl
theorem inN_in {fs : List Int} {f : Int} (h : f ∈ fs) : inN fs f = 1 := by unfold inN; rw [if_pos h]
theorem rg_rl {l : List FileRefR} {fs : List Int} (h : rgK l fs = true) : rlK (rgF l fs) fs = true ∧ rlF (rgF l fs) fs = l ∧ rlG (rgF l fs) fs = nfF l fs := by
  have hv := rgK_v h
  have hK : rlK (rgF l fs) fs = true := rlK_all (rgF_valid h) hv.2 (fun f hf => by rw [rgF_cnt h, inN_in hf]; have := refC_bd hv.1 f; omega)
  refine ⟨hK, ?_, ?_⟩
  · rw [(rlF_ok hK).1]
    refine (cnt_congr (fun f _ _ => ?_)).trans (cnt_refC hv.1)
    unfold rlN
    rw [rgF_cnt h]; omega
  · rw [(rlF_ok hK).2, nfF_ok (by rw [hv.1, hv.2]; rfl)]
    refine List.filter_congr (fun f hf => ?_)
    unfold rlP nfP
    rw [rgF_cnt h, inN_in hf]
    exact decide_eq_decide.2 (by omega)
theorem rg_count {l : List FileRefR} {fs : List Int} (h : rgK l fs = true) (f : Int) : fcF (rgF l fs) f = fcF l f + (if f ∈ fs then 1 else 0) := by
  unfold fcF
  rw [if_pos (rgF_valid h), if_pos (rgK_v h).1, rgF_cnt h]; rfl
theorem nf_mem {l : List FileRefR} {fs : List Int} (h : (vRefs l && vFiles fs) = true) {f : Int} (hf : f ∈ fs) : decide (f ∈ nfF l fs) = (fcF l f == 0) := by
  have hv := h
  rw [Bool.and_eq_true] at hv
  rw [nfF_ok h]
  unfold fcF
  rw [if_pos hv.1]
  by_cases h0 : refC l f = 0
  · have hm : f ∈ fs.filter (nfP l) := List.mem_filter.2 ⟨hf, decide_eq_true h0⟩
    rw [decide_eq_true hm]; simp [h0]
  · have hm : f ∉ fs.filter (nfP l) := fun hm => h0 (of_decide_eq_true (List.mem_filter.1 hm).2)
    rw [decide_eq_false hm]; simp [h0]
theorem rg_new {l : List FileRefR} {fs : List Int} (h : rgK l fs = true) : nfF (rgF l fs) fs = [] := by
  have hv := rgK_v h
  rw [nfF_ok (by rw [rgF_valid h, hv.2]; rfl), List.filter_eq_nil_iff]
  intro f hf hp
  unfold nfP at hp
  rw [decide_eq_true_eq, rgF_cnt h, inN_in hf] at hp
  have := refC_bd hv.1 f
  omega
theorem rl_mem1 {l : List FileRefR} {fs : List Int} (h : rlK l fs = true) {f : Int} (hf : f ∈ fs) : decide (f ∈ rlG l fs) = (fcF l f == 1) := by
  rw [(rlF_ok h).2]
  unfold fcF
  rw [if_pos (rlK_v h).1]
  by_cases h0 : refC l f = 1
  · have hm : f ∈ fs.filter (rlP l) := List.mem_filter.2 ⟨hf, decide_eq_true h0⟩
    rw [decide_eq_true hm]; simp [h0]
  · have hm : f ∉ fs.filter (rlP l) := fun hm => h0 (of_decide_eq_true (List.mem_filter.1 hm).2)
    rw [decide_eq_false hm]; simp [h0]
theorem rl_mem0 {l : List FileRefR} {fs : List Int} (h : rlK l fs = true) {f : Int} (hf : f ∈ fs) : decide (f ∈ rlG l fs) = (fcF (rlF l fs) f == 0) := by
  rw [rl_mem1 h hf]
  unfold fcF
  rw [if_pos (rlK_v h).1, if_pos (rlF_valid h), rlF_cnt h, inN_in hf]
  rw [Bool.eq_iff_iff]; simp; omega
theorem rl_new {l : List FileRefR} {fs : List Int} (h : rlK l fs = true) : nfF (rlF l fs) fs = rlG l fs := by
  rw [nfF_ok (by rw [rlF_valid h, (rlK_v h).2]; rfl), (rlF_ok h).2]
  refine List.filter_congr (fun f hf => ?_)
  unfold nfP rlP
  rw [rlF_cnt h, inN_in hf]
  exact decide_eq_decide.2 (by omega)
end Go.Proofs.Ytjjjlpnbniofjaa
