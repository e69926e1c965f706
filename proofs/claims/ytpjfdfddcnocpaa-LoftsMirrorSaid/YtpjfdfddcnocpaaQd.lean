import Derived.Test.YtpjfdfddcnocpaaQc
import Derived.Test.YtpjfdfddcnocpaaHd
set_option linter.unusedSimpArgs false
set_option linter.unusedVariables false
namespace Go.Proofs.Ytpjfdfddcnocpaa
open Go.RowKit Go.Shelf
attribute [local go_sem] Oper.semAt_some

theorem flatMap_len {α β : Type} (f : α → List β) (B : Nat) : ∀ l : List α, (∀ x ∈ l, (f x).length ≤ B) → (l.flatMap f).length ≤ l.length * B
  | [], _ => by simp
  | x :: l, h => by
    rw [List.flatMap_cons, List.length_append, List.length_cons]
    have := flatMap_len f B l (fun y hy => h y (List.mem_cons_of_mem _ hy))
    have := h x List.mem_cons_self
    rw [Nat.add_mul]
    omega
theorem settleL_len (rows : Nat → List Sp) (B : Nat) (hB : 1 ≤ B) : ∀ (ls : List Nat) (f : At) (sp : Int), (∀ l ∈ ls, (rows l).length ≤ B) → (settleL rows ls f sp).length ≤ B ^ ls.length
  | [], f, sp, _ => by simp [settleL]
  | l :: ls, f, sp, h => by
    rw [settleL_cons]
    refine Nat.le_trans (flatMap_len _ (B ^ ls.length) _ fun s _ => ?_) ?_
    · unfold stepL
      split
      · exact settleL_len rows B hB ls _ _ (fun x hx => h x (List.mem_cons_of_mem _ hx))
      · exact Nat.zero_le _
    · rw [List.length_cons, Nat.pow_succ, Nat.mul_comm]
      exact Nat.mul_le_mul_left _ (h l List.mem_cons_self)
theorem truths3_len {north : Int} {cols : Nat} {east : List Int} {svs : List Sv} {ls : List Nat} {sp : Int} (hl : ls.length ≤ 3) (hc : cols ≤ 10) (hr : east.length ≤ 10) : (truthsOf (spotsOf north cols east svs) ls sp).length ≤ 1000000 := by
  refine Nat.le_trans (settleL_len _ 100 (by omega) _ _ _ (fun l _ => spotsOf_len north cols east svs l hc hr)) ?_
  have h := namesOf_len ls
  exact Nat.pow_le_pow_right (by omega) (show (namesOf ls).length ≤ 3 by omega)
section
variable (north wrong r rc px py qx qy : Int) (cols lofts o a b : Nat) (east : List Int) (svs1 svs2 : List Sv) (ea1 sa1 ea2 sa2 : Option Addr) (ec1 sc1 ec2 sc2 : Nat) (w : World)
theorem alike_of (he1 : IntsAt w ea1 east) (hs1 : SvsAt w sa1 svs1) (he2 : IntsAt w ea2 east) (hs2 : SvsAt w sa2 svs2) (hk1 : checkE north cols east lofts svs1 wrong = 0) (hk2 : checkE north cols east lofts svs2 wrong = 0) (ho : o < lofts) (ha : a < lofts) (hb : b < lofts)
    (hM : manyV north wrong cols lofts east svs1 = manyV north wrong cols lofts east svs2) (hF : fewSum north cols east svs1 lofts = fewSum north cols east svs2 lofts)
    (hP : (truthsOf (spotsOf north cols east svs1) [a] (wrong - fewSum north cols east svs1 lofts)).length = (truthsOf (spotsOf north cols east svs2) [a] (wrong - fewSum north cols east svs2 lofts)).length)
    (hlo : loQ north east a b (truthsOf (spotsOf north cols east svs1) [a, b] (wrong - fewSum north cols east svs1 lofts)) = loQ north east a b (truthsOf (spotsOf north cols east svs2) [a, b] (wrong - fewSum north cols east svs2 lofts)))
    (hhi : hiQ north east a b (truthsOf (spotsOf north cols east svs1) [a, b] (wrong - fewSum north cols east svs1 lofts)) = hiQ north east a b (truthsOf (spotsOf north cols east svs2) [a, b] (wrong - fewSum north cols east svs2 lofts)))
    (hN : nearV ((truthsOf (spotsOf north cols east svs1) [o, a, b] (wrong - fewSum north cols east svs1 lofts)).map (cmpF north east o a b)) = nearV ((truthsOf (spotsOf north cols east svs2) [o, a, b] (wrong - fewSum north cols east svs2 lofts)).map (cmpF north east o a b))) :
    AlikeGoal north wrong r rc px py qx qy cols lofts o a b east svs1 svs2 ea1 sa1 ea2 sa2 ec1 sc1 ec2 sc2 w := by
  obtain ⟨hv1, hl1, hso1⟩ := checkE_zero hk1
  obtain ⟨hv2, hl2, hso2⟩ := checkE_zero hk2
  have vb := vm_bounds hv1
  have hlen : ∀ (svs : List Sv) (sp : Int), (truthsOf (spotsOf north cols east svs) [a] sp).length ≤ 1000000 := fun svs sp => Nat.le_trans (Nat.le_trans truths_one_len (spotsOf_len north cols east svs a (by omega) (by omega))) (by omega)
  have HM1 := fun (W : World) (hW : G w W) => Many_ok north wrong cols lofts east svs1 ea1 sa1 ec1 sc1 W (he1.below hW) (hs1.below hW) hk1 hl1 hso1
  have HM2 := fun (W : World) (hW : G w W) => Many_ok north wrong cols lofts east svs2 ea2 sa2 ec2 sc2 W (he2.below hW) (hs2.below hW) hk2 hl2 hso2
  rw [← hM] at HM2
  by_cases hw1 : wrong < fewSum north cols east svs1 lofts
  · have hw2 : wrong < fewSum north cols east svs2 lofts := by rw [← hF]; exact hw1
    exact alike_core north wrong r rc px py qx qy cols lofts o a b east svs1 svs2 ea1 sa1 ea2 sa2 ec1 sc1 ec2 sc2 w _ _ 3 0 0 0 0 HM1 HM2
      (fun W hW => (Places_none north wrong cols lofts a east svs1 ea1 sa1 ec1 sc1 W (he1.below hW) (hs1.below hW) hk1 ha hw1).mono fun e w' ⟨h1, h2⟩ => ⟨⟨_, _, h1⟩, h2⟩)
      (fun W hW => (Places_none north wrong cols lofts a east svs2 ea2 sa2 ec2 sc2 W (he2.below hW) (hs2.below hW) hk2 ha hw2).mono fun e w' ⟨h1, h2⟩ => ⟨⟨_, _, h1⟩, h2⟩)
      (fun W hW => Distance_none north wrong cols lofts a b east svs1 ea1 sa1 ec1 sc1 W 2 (by omega) (he1.below hW) (hs1.below hW) hk1 ha hb hw1)
      (fun W hW => Distance_none north wrong cols lofts a b east svs2 ea2 sa2 ec2 sc2 W 2 (by omega) (he2.below hW) (hs2.below hW) hk2 ha hb hw2)
      (fun W hW => Nearer_none north wrong cols lofts o a b east svs1 ea1 sa1 ec1 sc1 W (he1.below hW) (hs1.below hW) hk1 ho ha hb hw1)
      (fun W hW => Nearer_none north wrong cols lofts o a b east svs2 ea2 sa2 ec2 sc2 W (he2.below hW) (hs2.below hW) hk2 ho ha hb hw2) (by omega)
  · have hw2 : ¬ wrong < fewSum north cols east svs2 lofts := by rw [← hF]; exact hw1
    have hne1 := truths_ne (ls := [a, b]) hk1 hw1
    have hne2 := truths_ne (ls := [a, b]) hk2 hw2
    have hna1 := truths_ne (ls := [a]) hk1 hw1
    have hna2 := truths_ne (ls := [a]) hk2 hw2
    have HD2 := fun (W : World) (hW : G w W) => Distance_ok north wrong cols lofts a b east svs2 ea2 sa2 ec2 sc2 2 W (he2.below hW) (hs2.below hW) hk2 (by omega) ha hb hw2 hne2
    have HN2 := fun (W : World) (hW : G w W) => Nearer_ok north wrong cols lofts o a b east svs2 ea2 sa2 ec2 sc2 W (he2.below hW) (hs2.below hW) hk2 ho ha hb hw2 (truths3_len (by simp) (by omega) (by omega))
    rw [← hlo, ← hhi] at HD2
    rw [← hN] at HN2
    exact alike_core north wrong r rc px py qx qy cols lofts o a b east svs1 svs2 ea1 sa1 ea2 sa2 ec1 sc1 ec2 sc2 w _ _ 0 _ _ _ _ HM1 HM2
      (fun W hW => (Places_ok north wrong cols lofts a east svs1 ea1 sa1 ec1 sc1 W (he1.below hW) (hs1.below hW) hk1 ha hw1 (hlen _ _)).mono fun e w' ⟨v, h1, h2, h3⟩ => by
        obtain ⟨g, cap, e2, _⟩ := pts_of hna1 h2
        subst e2
        exact ⟨⟨_, _, h1⟩, h3⟩)
      (fun W hW => (Places_ok north wrong cols lofts a east svs2 ea2 sa2 ec2 sc2 W (he2.below hW) (hs2.below hW) hk2 ha hw2 (hlen _ _)).mono fun e w' ⟨v, h1, h2, h3⟩ => by
        obtain ⟨g, cap, e2, _⟩ := pts_of hna2 h2
        subst e2
        rw [← hP] at h1
        exact ⟨⟨_, _, h1⟩, h3⟩)
      (fun W hW => Distance_ok north wrong cols lofts a b east svs1 ea1 sa1 ec1 sc1 2 W (he1.below hW) (hs1.below hW) hk1 (by omega) ha hb hw1 hne1)
      HD2
      (fun W hW => Nearer_ok north wrong cols lofts o a b east svs1 ea1 sa1 ec1 sc1 W (he1.below hW) (hs1.below hW) hk1 ho ha hb hw1 (truths3_len (by simp) (by omega) (by omega)))
      HN2 (hlen _ _)
/-- the same surveys in another order -/
theorem cost_perm {svs svs' : List Sv} (h : svs'.Perm svs) (l : Nat) (p : Nat × Nat) : cost north east svs' l p = cost north east svs l p := by
  unfold cost wrongN
  exact (h.filter _).length_eq
theorem spots_perm {svs svs' : List Sv} (h : svs'.Perm svs) : spotsOf north cols east svs' = spotsOf north cols east svs ∧ ∀ k, fewSum north cols east svs' k = fewSum north cols east svs k := by
  have hc : ∀ l, cost north east svs' l = cost north east svs l := fun l => funext fun p => cost_perm north east h l p
  have hlow : ∀ l pl, lowC north east svs' l pl = lowC north east svs l pl := fun l pl => by
    unfold lowC
    rw [hc, h.length_eq]
  refine ⟨funext fun l => ?_, fun k => ?_⟩
  · unfold spotsOf
    rw [hlow, hc]
  · unfold fewSum
    exact sumR_congr k fun l _ => hlow l _
theorem checkE_perm {lofts wrong cols : Int} {svs svs' : List Sv} (h : svs'.Perm svs) (hk : checkE north cols east lofts svs wrong = 0) : checkE north cols east lofts svs' wrong = 0 :=
  checkE_sub hk (by rw [h.length_eq]; exact (checkE_zero hk).2.1) (fun s hs => h.mem_iff.1 hs)
end
end Go.Proofs.Ytpjfdfddcnocpaa
