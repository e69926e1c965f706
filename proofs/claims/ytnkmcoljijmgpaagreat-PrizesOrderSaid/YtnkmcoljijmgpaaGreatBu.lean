import Derived.Test.YtnkmcoljijmgpaaGreatBt
set_option linter.unusedSimpArgs false
set_option linter.unusedVariables false
namespace Go.Proofs.YtnkmcoljijmgpaaGreat
open Go.RowKit Go.Shelf Go.Sort Go.Maps
attribute [local go_sem] Oper.semAt_some
theorem ex_race (B : Nat) : raceB (exR B) = true := by kernel_rfl
theorem ex_run0 (B : Nat) : runners (exR B) 0 = [⟨11, 1, 1, 1, some ⟨B + 1, 0, none⟩, 3, [0, 1, 2]⟩, ⟨12, 2, 2, 1, some ⟨B + 1 + 1, 0, none⟩, 2, [0, 1]⟩, ⟨13, 1, 2, 1, some ⟨B + 1 + 1 + 1, 0, none⟩, 3, [0, 1, 2]⟩, ⟨14, 3, 1, 2, some ⟨B + 1 + 1 + 1 + 1, 0, none⟩, 2, [0, 1]⟩, ⟨15, 2, 0, 0, some ⟨B + 1 + 1 + 1 + 1 + 1, 0, none⟩, 2, [0, 2]⟩] := by
  unfold runners srt
  rw [show (exR B).racers.filter (fun x => inL x.pools 0) = [⟨11, 1, 1, 1, some ⟨B + 1, 0, none⟩, 3, [0, 1, 2]⟩, ⟨12, 2, 2, 1, some ⟨B + 1 + 1, 0, none⟩, 2, [0, 1]⟩, ⟨13, 1, 2, 1, some ⟨B + 1 + 1 + 1, 0, none⟩, 3, [0, 1, 2]⟩, ⟨14, 3, 1, 2, some ⟨B + 1 + 1 + 1 + 1, 0, none⟩, 2, [0, 1]⟩, ⟨15, 2, 0, 0, some ⟨B + 1 + 1 + 1 + 1 + 1, 0, none⟩, 2, [0, 2]⟩] by kernel_rfl]
  exact List.mergeSort_of_pairwise (by simp)
def exF0 (B : Nat) : Fu := ⟨⟨1000, 100, 1, some ⟨B + 1 + 1 + 1 + 1 + 1 + 1 + 1, 0, none⟩, 3, [500, 300, 100], 0, false⟩, none, 0, [⟨11, 1, 1, 1, some ⟨B + 1, 0, none⟩, 3, [0, 1, 2]⟩, ⟨12, 2, 2, 1, some ⟨B + 1 + 1, 0, none⟩, 2, [0, 1]⟩, ⟨13, 1, 2, 1, some ⟨B + 1 + 1 + 1, 0, none⟩, 3, [0, 1, 2]⟩, ⟨14, 3, 1, 2, some ⟨B + 1 + 1 + 1 + 1, 0, none⟩, 2, [0, 1]⟩, ⟨15, 2, 0, 0, some ⟨B + 1 + 1 + 1 + 1 + 1, 0, none⟩, 2, [0, 2]⟩], some ⟨B + 1 + 1 + 1 + 1 + 1 + 1 + 1 + 1 + 1, 0, none⟩, 2, [11, 13]⟩
theorem ex_fu0 (B : Nat) : fuOf (exR B) 0 none 0 = exF0 B := by
  unfold fuOf
  rw [ex_run0]
  rfl
theorem ex_run1 (B : Nat) : runners (exR B) 1 = [⟨11, 1, 1, 1, some ⟨B + 1, 0, none⟩, 3, [0, 1, 2]⟩, ⟨12, 2, 2, 1, some ⟨B + 1 + 1, 0, none⟩, 2, [0, 1]⟩, ⟨13, 1, 2, 1, some ⟨B + 1 + 1 + 1, 0, none⟩, 3, [0, 1, 2]⟩, ⟨14, 3, 1, 2, some ⟨B + 1 + 1 + 1 + 1, 0, none⟩, 2, [0, 1]⟩] := by
  unfold runners srt
  rw [show (exR B).racers.filter (fun x => inL x.pools 1) = [⟨11, 1, 1, 1, some ⟨B + 1, 0, none⟩, 3, [0, 1, 2]⟩, ⟨12, 2, 2, 1, some ⟨B + 1 + 1, 0, none⟩, 2, [0, 1]⟩, ⟨13, 1, 2, 1, some ⟨B + 1 + 1 + 1, 0, none⟩, 3, [0, 1, 2]⟩, ⟨14, 3, 1, 2, some ⟨B + 1 + 1 + 1 + 1, 0, none⟩, 2, [0, 1]⟩] by kernel_rfl]
  exact List.mergeSort_of_pairwise (by simp)
def exF1 (B : Nat) : Fu := ⟨⟨333, 0, 2, none, 0, [], 2, false⟩, none, 0, [⟨11, 1, 1, 1, some ⟨B + 1, 0, none⟩, 3, [0, 1, 2]⟩, ⟨12, 2, 2, 1, some ⟨B + 1 + 1, 0, none⟩, 2, [0, 1]⟩, ⟨13, 1, 2, 1, some ⟨B + 1 + 1 + 1, 0, none⟩, 3, [0, 1, 2]⟩, ⟨14, 3, 1, 2, some ⟨B + 1 + 1 + 1 + 1, 0, none⟩, 2, [0, 1]⟩], some ⟨B + 1 + 1 + 1 + 1 + 1 + 1 + 1 + 1 + 1, 0, none⟩, 2, [11, 13]⟩
theorem ex_fu1 (B : Nat) : fuOf (exR B) 1 none 0 = exF1 B := by
  unfold fuOf
  rw [ex_run1]
  rfl
theorem ex_run2 (B : Nat) : runners (exR B) 2 = [⟨11, 1, 1, 1, some ⟨B + 1, 0, none⟩, 3, [0, 1, 2]⟩, ⟨13, 1, 2, 1, some ⟨B + 1 + 1 + 1, 0, none⟩, 3, [0, 1, 2]⟩, ⟨15, 2, 0, 0, some ⟨B + 1 + 1 + 1 + 1 + 1, 0, none⟩, 2, [0, 2]⟩] := by
  unfold runners srt
  rw [show (exR B).racers.filter (fun x => inL x.pools 2) = [⟨11, 1, 1, 1, some ⟨B + 1, 0, none⟩, 3, [0, 1, 2]⟩, ⟨13, 1, 2, 1, some ⟨B + 1 + 1 + 1, 0, none⟩, 3, [0, 1, 2]⟩, ⟨15, 2, 0, 0, some ⟨B + 1 + 1 + 1 + 1 + 1, 0, none⟩, 2, [0, 2]⟩] by kernel_rfl]
  exact List.mergeSort_of_pairwise (by simp)
def exF2 (B : Nat) : Fu := ⟨⟨500, 0, 3, none, 0, [], 0, true⟩, none, 0, [⟨11, 1, 1, 1, some ⟨B + 1, 0, none⟩, 3, [0, 1, 2]⟩, ⟨13, 1, 2, 1, some ⟨B + 1 + 1 + 1, 0, none⟩, 3, [0, 1, 2]⟩, ⟨15, 2, 0, 0, some ⟨B + 1 + 1 + 1 + 1 + 1, 0, none⟩, 2, [0, 2]⟩], some ⟨B + 1 + 1 + 1 + 1 + 1 + 1 + 1 + 1 + 1, 0, none⟩, 2, [11, 13]⟩
theorem ex_fu2 (B : Nat) : fuOf (exR B) 2 none 0 = exF2 B := by
  unfold fuOf
  rw [ex_run2]
  rfl
theorem ex_tk0_0 (B : Nat) : takersL (exF0 B) [] = [⟨11, 1, 1, 1, some ⟨B + 1, 0, none⟩, 3, [0, 1, 2]⟩, ⟨12, 2, 2, 1, some ⟨B + 1 + 1, 0, none⟩, 2, [0, 1]⟩, ⟨13, 1, 2, 1, some ⟨B + 1 + 1 + 1, 0, none⟩, 3, [0, 1, 2]⟩, ⟨14, 3, 1, 2, some ⟨B + 1 + 1 + 1 + 1, 0, none⟩, 2, [0, 1]⟩] := by
  unfold takersL tks
  rw [show (exF0 B).rs.filter (fun x => !skipB (exF0 B).po.first [] x) = [⟨11, 1, 1, 1, some ⟨B + 1, 0, none⟩, 3, [0, 1, 2]⟩, ⟨12, 2, 2, 1, some ⟨B + 1 + 1, 0, none⟩, 2, [0, 1]⟩, ⟨13, 1, 2, 1, some ⟨B + 1 + 1 + 1, 0, none⟩, 3, [0, 1, 2]⟩, ⟨14, 3, 1, 2, some ⟨B + 1 + 1 + 1 + 1, 0, none⟩, 2, [0, 1]⟩] by kernel_rfl]
  exact List.mergeSort_of_pairwise (by simp [lexL])
theorem ex_wn0_0 (B : Nat) : wonL (exF0 B) [] = [(11, 2250), (12, 900), (13, 900), (14, 0)] := by
  unfold wonL orderL
  rw [ex_tk0_0]
  kernel_rfl
theorem ex_tk0_11 (B : Nat) : takersL (exF0 B) [11] = [⟨12, 2, 2, 1, some ⟨B + 1 + 1, 0, none⟩, 2, [0, 1]⟩, ⟨13, 1, 2, 1, some ⟨B + 1 + 1 + 1, 0, none⟩, 3, [0, 1, 2]⟩, ⟨14, 3, 1, 2, some ⟨B + 1 + 1 + 1 + 1, 0, none⟩, 2, [0, 1]⟩] := by
  unfold takersL tks
  rw [show (exF0 B).rs.filter (fun x => !skipB (exF0 B).po.first [11] x) = [⟨12, 2, 2, 1, some ⟨B + 1 + 1, 0, none⟩, 2, [0, 1]⟩, ⟨13, 1, 2, 1, some ⟨B + 1 + 1 + 1, 0, none⟩, 3, [0, 1, 2]⟩, ⟨14, 3, 1, 2, some ⟨B + 1 + 1 + 1 + 1, 0, none⟩, 2, [0, 1]⟩] by kernel_rfl]
  exact List.mergeSort_of_pairwise (by simp [lexL])
theorem ex_wn0_11 (B : Nat) : wonL (exF0 B) [11] = [(12, 1800), (13, 1800), (14, 450)] := by
  unfold wonL orderL
  rw [ex_tk0_11]
  kernel_rfl
theorem ex_tk0_13 (B : Nat) : takersL (exF0 B) [13] = [⟨11, 1, 1, 1, some ⟨B + 1, 0, none⟩, 3, [0, 1, 2]⟩, ⟨12, 2, 2, 1, some ⟨B + 1 + 1, 0, none⟩, 2, [0, 1]⟩, ⟨14, 3, 1, 2, some ⟨B + 1 + 1 + 1 + 1, 0, none⟩, 2, [0, 1]⟩] := by
  unfold takersL tks
  rw [show (exF0 B).rs.filter (fun x => !skipB (exF0 B).po.first [13] x) = [⟨11, 1, 1, 1, some ⟨B + 1, 0, none⟩, 3, [0, 1, 2]⟩, ⟨12, 2, 2, 1, some ⟨B + 1 + 1, 0, none⟩, 2, [0, 1]⟩, ⟨14, 3, 1, 2, some ⟨B + 1 + 1 + 1 + 1, 0, none⟩, 2, [0, 1]⟩] by kernel_rfl]
  exact List.mergeSort_of_pairwise (by simp [lexL])
theorem ex_wn0_13 (B : Nat) : wonL (exF0 B) [13] = [(11, 2250), (12, 1350), (14, 450)] := by
  unfold wonL orderL
  rw [ex_tk0_13]
  kernel_rfl
theorem ex_tk0_11_13 (B : Nat) : takersL (exF0 B) [11, 13] = [⟨12, 2, 2, 1, some ⟨B + 1 + 1, 0, none⟩, 2, [0, 1]⟩, ⟨14, 3, 1, 2, some ⟨B + 1 + 1 + 1 + 1, 0, none⟩, 2, [0, 1]⟩] := by
  unfold takersL tks
  rw [show (exF0 B).rs.filter (fun x => !skipB (exF0 B).po.first [11, 13] x) = [⟨12, 2, 2, 1, some ⟨B + 1 + 1, 0, none⟩, 2, [0, 1]⟩, ⟨14, 3, 1, 2, some ⟨B + 1 + 1 + 1 + 1, 0, none⟩, 2, [0, 1]⟩] by kernel_rfl]
  exact List.mergeSort_of_pairwise (by simp [lexL])
theorem ex_wn0_11_13 (B : Nat) : wonL (exF0 B) [11, 13] = [(12, 2250), (14, 1350)] := by
  unfold wonL orderL
  rw [ex_tk0_11_13]
  kernel_rfl
theorem ex_tk1_0 (B : Nat) : takersL (exF1 B) [] = [⟨11, 1, 1, 1, some ⟨B + 1, 0, none⟩, 3, [0, 1, 2]⟩, ⟨12, 2, 2, 1, some ⟨B + 1 + 1, 0, none⟩, 2, [0, 1]⟩, ⟨13, 1, 2, 1, some ⟨B + 1 + 1 + 1, 0, none⟩, 3, [0, 1, 2]⟩, ⟨14, 3, 1, 2, some ⟨B + 1 + 1 + 1 + 1, 0, none⟩, 2, [0, 1]⟩] := by
  unfold takersL tks
  rw [show (exF1 B).rs.filter (fun x => !skipB (exF1 B).po.first [] x) = [⟨11, 1, 1, 1, some ⟨B + 1, 0, none⟩, 3, [0, 1, 2]⟩, ⟨12, 2, 2, 1, some ⟨B + 1 + 1, 0, none⟩, 2, [0, 1]⟩, ⟨13, 1, 2, 1, some ⟨B + 1 + 1 + 1, 0, none⟩, 3, [0, 1, 2]⟩, ⟨14, 3, 1, 2, some ⟨B + 1 + 1 + 1 + 1, 0, none⟩, 2, [0, 1]⟩] by kernel_rfl]
  exact List.mergeSort_of_pairwise (by simp [lexL])
theorem ex_wn1_0 (B : Nat) : wonL (exF1 B) [] = [(11, 666), (12, 333), (13, 333), (14, 0)] := by
  unfold wonL orderL
  rw [ex_tk1_0]
  kernel_rfl
theorem ex_tk2_0 (B : Nat) : takersL (exF2 B) [] = [⟨11, 1, 1, 1, some ⟨B + 1, 0, none⟩, 3, [0, 1, 2]⟩, ⟨13, 1, 2, 1, some ⟨B + 1 + 1 + 1, 0, none⟩, 3, [0, 1, 2]⟩] := by
  unfold takersL tks
  rw [show (exF2 B).rs.filter (fun x => !skipB (exF2 B).po.first [] x) = [⟨11, 1, 1, 1, some ⟨B + 1, 0, none⟩, 3, [0, 1, 2]⟩, ⟨13, 1, 2, 1, some ⟨B + 1 + 1 + 1, 0, none⟩, 3, [0, 1, 2]⟩] by kernel_rfl]
  exact List.mergeSort_of_pairwise (by simp [lexL])
theorem ex_wn2_0 (B : Nat) : wonL (exF2 B) [] = [(11, 1500), (13, 0)] := by
  unfold wonL orderL
  rw [ex_tk2_0]
  kernel_rfl
theorem ex_pot (B : Nat) : potV (fuOf (exR B) 0 none 0) = #[.int .i64 5000, .int .i64 500, .int .i64 4500, .int .i64 450] := by
  rw [ex_fu0]
  unfold potV resI
  rw [ex_wn0_0]
  kernel_rfl
theorem ex_q (B : Nat) : qE (exR B) 0 [] = 0 := by
  unfold qE
  rw [ex_race]
  kernel_rfl
theorem ex_q12 (B : Nat) : qE (exR B) 0 [12] = 0 := by
  unfold qE
  rw [ex_race, ex_run0]
  kernel_rfl
theorem ex_cases : caseL [11, 13] = [[], [11], [13], [11, 13]] := by kernel_rfl
theorem ex_lo (B : Nat) : canLo (fuOf (exR B) 0 none 0) 12 (caseL [11, 13]) = 900 := by
  rw [ex_fu0, ex_cases]
  unfold canLo
  simp only [List.foldl]
  rw [ex_wn0_0, ex_wn0_11, ex_wn0_13, ex_wn0_11_13]
  kernel_rfl
theorem ex_hi (B : Nat) : canHi (fuOf (exR B) 0 none 0) 12 (caseL [11, 13]) = 2250 := by
  rw [ex_fu0, ex_cases]
  unfold canHi
  simp only [List.foldl]
  rw [ex_wn0_0, ex_wn0_11, ex_wn0_13, ex_wn0_11_13]
  kernel_rfl
theorem ex_pz0 (B : Nat) : prizesL (exF0 B) = (List.range 5).map fun i => (⟨((exF0 B).rs.getD i default).bird, wonAt [(11, 2250), (12, 900), (13, 900), (14, 0)] ((exF0 B).rs.getD i default).bird, shareI (lefI (exF0 B) - sndS [(11, 2250), (12, 900), (13, 900), (14, 0)]) 5 i⟩ : Pz) := by
  unfold prizesL resI
  rw [ex_wn0_0]
  rfl
theorem ex_pz1 (B : Nat) : prizesL (exF1 B) = (List.range 4).map fun i => (⟨((exF1 B).rs.getD i default).bird, wonAt [(11, 666), (12, 333), (13, 333), (14, 0)] ((exF1 B).rs.getD i default).bird, shareI (lefI (exF1 B) - sndS [(11, 666), (12, 333), (13, 333), (14, 0)]) 4 i⟩ : Pz) := by
  unfold prizesL resI
  rw [ex_wn1_0]
  rfl
theorem ex_pz2 (B : Nat) : prizesL (exF2 B) = (List.range 3).map fun i => (⟨((exF2 B).rs.getD i default).bird, wonAt [(11, 1500), (13, 0)] ((exF2 B).rs.getD i default).bird, shareI (lefI (exF2 B) - sndS [(11, 1500), (13, 0)]) 3 i⟩ : Pz) := by
  unfold prizesL resI
  rw [ex_wn2_0]
  rfl
def puG (rs : List Rc) (stake : Int) (PL : List Pz) (acc : List Pu) : Nat → List Pu
  | 0 => acc
  | j + 1 => putP (puG rs stake PL acc j) (addP (atP (puG rs stake PL acc j) (rs.getD j default).owner) stake ((PL.getD j default).won + (PL.getD j default).back))
theorem puIn_G (f : Fu) (acc : List Pu) : ∀ j, puIn f acc j = puG f.rs f.po.stake (prizesL f) acc j
  | 0 => rfl
  | j + 1 => by unfold puIn puG; rw [puIn_G f acc j]
theorem ex_pu (B : Nat) : puTo (exR B) 3 = [⟨1, 3666, 5829⟩, ⟨2, 2833, 1413⟩, ⟨3, 1333, 90⟩] := by
  have h : puTo (exR B) 3 = puIn (fuOf (exR B) 2 none 0) (puIn (fuOf (exR B) 1 none 0) (puIn (fuOf (exR B) 0 none 0) (pu0 (exR B).racers 5) (runners (exR B) 0).length) (runners (exR B) 1).length) (runners (exR B) 2).length := rfl
  rw [h, ex_fu0, ex_fu1, ex_fu2, ex_run0, ex_run1, ex_run2]
  have l5 : ∀ a b c d e : Rc, [a, b, c, d, e].length = 5 := fun _ _ _ _ _ => rfl
  have l4 : ∀ a b c d : Rc, [a, b, c, d].length = 4 := fun _ _ _ _ => rfl
  have l3 : ∀ a b c : Rc, [a, b, c].length = 3 := fun _ _ _ => rfl
  rw [l5, l4, l3, puIn_G, puIn_G, puIn_G, ex_pz0, ex_pz1, ex_pz2]
  clear l5 l4 l3 h
  show puG _ _ _ _ _ = _
  kernel_rfl
theorem ex_purses (B : Nat) : pursesL (exR B) = [⟨1, 3666, 5829⟩, ⟨2, 2833, 1413⟩, ⟨3, 1333, 90⟩] := by
  unfold pursesL srtP
  rw [show (exR B).pools.length = 3 from rfl, ex_pu]
  exact List.mergeSort_of_pairwise (by simp)
end Go.Proofs.YtnkmcoljijmgpaaGreat
