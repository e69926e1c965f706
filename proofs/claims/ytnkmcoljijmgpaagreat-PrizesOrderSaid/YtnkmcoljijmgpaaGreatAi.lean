import Derived.Shelf.SlSortCmp.NoneTotal
import Derived.Shelf.SlSortCmp.WholeK
import Derived.Ground.SlsfProg
import Derived.Test.YtnkmcoljijmgpaaGreatAg
set_option linter.unusedSimpArgs false
set_option linter.unusedVariables false
namespace Go.Proofs.YtnkmcoljijmgpaaGreat
open Go.RowKit Go.Shelf Go.Sort
attribute [local go_sem] Oper.semAt_some
def Tryz.sortRc_ren : Go.Shelf.Ren := ⟨fun | 6 => 77 | 15 => 102 | 14 => 101 | 28 => 127 | 29 => 128 | 20 => 119 | 21 => 120 | 22 => 121 | 23 => 122 | 24 => 123 | 25 => 124 | 26 => 125 | 27 => 126 | 46 => 151 | 47 => 152 | 48 => 153 | 49 => 154 | 50 => 155 | 57 => 164 | n => n, fun | 22 => 22 | 24 => 60 | 25 => 123 | 3 => 3 | 39 => 72 | 0 => 0 | 53 => 156 | 55 => 158 | 4 => 4 | 46 => 149 | 45 => 148 | 50 => 153 | 5 => 5 | 9 => 9 | 66 => 172 | 70 => 176 | 76 => 182 | 77 => 183 | n => n, fun | n => n⟩
theorem Tryz.sortRc : Go.Proofs.SlLaysF0.n6 Tryz.prog Tryz.sortRc_ren := {
  mixed := by kernel_rfl,
  f6 := ⟨Tryz.f77.name, by decide, Tryz.func77.trans (congrArg some (by kernel_rfl))⟩,
  f14 := ⟨Tryz.f101.name, by decide, Tryz.func101.trans (congrArg some (by kernel_rfl))⟩,
  f15 := Tryz.func102.trans (congrArg some (by kernel_rfl)),
  f20 := ⟨Tryz.f119.name, by decide, Tryz.func119.trans (congrArg some (by kernel_rfl))⟩,
  f21 := ⟨Tryz.f120.name, by decide, Tryz.func120.trans (congrArg some (by kernel_rfl))⟩,
  f22 := ⟨Tryz.f121.name, by decide, Tryz.func121.trans (congrArg some (by kernel_rfl))⟩,
  f23 := ⟨Tryz.f122.name, by decide, Tryz.func122.trans (congrArg some (by kernel_rfl))⟩,
  f24 := ⟨Tryz.f123.name, by decide, Tryz.func123.trans (congrArg some (by kernel_rfl))⟩,
  f25 := ⟨Tryz.f124.name, by decide, Tryz.func124.trans (congrArg some (by kernel_rfl))⟩,
  f26 := ⟨Tryz.f125.name, by decide, Tryz.func125.trans (congrArg some (by kernel_rfl))⟩,
  f27 := ⟨Tryz.f126.name, by decide, Tryz.func126.trans (congrArg some (by kernel_rfl))⟩,
  f28 := Tryz.func127.trans (congrArg some (by kernel_rfl)),
  f29 := Tryz.func128.trans (congrArg some (by kernel_rfl)),
  f46 := ⟨Tryz.f151.name, by decide, Tryz.func151.trans (congrArg some (by kernel_rfl))⟩,
  f47 := Tryz.func152.trans (congrArg some (by kernel_rfl)),
  f48 := Tryz.func153.trans (congrArg some (by kernel_rfl)),
  f49 := ⟨Tryz.f154.name, by decide, Tryz.func154.trans (congrArg some (by kernel_rfl))⟩,
  f50 := ⟨Tryz.f155.name, by decide, Tryz.func155.trans (congrArg some (by kernel_rfl))⟩,
  f57 := ⟨Tryz.f164.name, by decide, Tryz.func164.trans (congrArg some (by kernel_rfl))⟩,
  t0 := Tryz.underlying0,
  a0 := Tryz.isAgg0,
  z0 := Tryz.sizeOf0,
  v0 := Tryz.zeroValue0,
  t3 := Tryz.underlying3,
  a3 := Tryz.isAgg3,
  z3 := Tryz.sizeOf3,
  v3 := Tryz.zeroValue3,
  t4 := Tryz.underlying4,
  a4 := Tryz.isAgg4,
  z4 := Tryz.sizeOf4,
  v4 := Tryz.zeroValue4,
  t5 := Tryz.underlying5,
  a5 := Tryz.isAgg5,
  z5 := Tryz.sizeOf5,
  v5 := Tryz.zeroValue5,
  t9 := Tryz.underlying9,
  a9 := Tryz.isAgg9,
  z9 := Tryz.sizeOf9,
  v9 := Tryz.zeroValue9,
  t22 := Tryz.underlying22,
  a22 := Tryz.isAgg22,
  z22 := Tryz.sizeOf22,
  v22 := Tryz.zeroValue22,
  t25 := Tryz.underlying123,
  a25 := Tryz.isAgg123,
  z25 := Tryz.sizeOf123,
  v25 := Tryz.zeroValue123,
  t39 := Tryz.underlying72,
  a39 := Tryz.isAgg72,
  z39 := Tryz.sizeOf72,
  v39 := Tryz.zeroValue72,
  t45 := Tryz.underlying148,
  a45 := Tryz.isAgg148,
  z45 := Tryz.sizeOf148,
  v45 := Tryz.zeroValue148,
  t46 := Tryz.underlying149,
  a46 := Tryz.isAgg149,
  z46 := Tryz.sizeOf149,
  v46 := Tryz.zeroValue149,
  t50 := Tryz.underlying153,
  a50 := Tryz.isAgg153,
  z50 := Tryz.sizeOf153,
  v50 := Tryz.zeroValue153,
  t53 := Tryz.underlying156,
  a53 := Tryz.isAgg156,
  z53 := Tryz.sizeOf156,
  v53 := Tryz.zeroValue156,
  t55 := Tryz.underlying158,
  a55 := Tryz.isAgg158,
  z55 := Tryz.sizeOf158,
  v55 := Tryz.zeroValue158,
  t66 := Tryz.underlying172,
  a66 := Tryz.isAgg172,
  z66 := Tryz.sizeOf172,
  v66 := Tryz.zeroValue172,
  t70 := Tryz.underlying176,
  a70 := Tryz.isAgg176,
  z70 := Tryz.sizeOf176,
  v70 := Tryz.zeroValue176,
  t76 := Tryz.underlying182,
  a76 := Tryz.isAgg182,
  z76 := Tryz.sizeOf182,
  v76 := Tryz.zeroValue182,
  t77 := Tryz.underlying183,
  a77 := Tryz.isAgg183,
  z77 := Tryz.sizeOf183,
  v77 := Tryz.zeroValue183 }

theorem perm_toList {α : Type} [Inhabited α] {d d' : Array α} (h : PermIn 0 d.size d d') : d'.toList.Perm d.toList := by
  obtain ⟨h1, _, h3⟩ := h
  have e1 : d'.extract 0 d.size = d' := by rw [← h1]; exact Array.extract_size
  rw [e1, Array.extract_size] at h3
  exact h3
theorem swoBird : SWO (ltOf birdC) where
  irrefl x := by rw [show ltOf birdC x x = _ from ltBird x x]; simp
  trans x y z h1 h2 := by rw [show ltOf birdC x y = _ from ltBird x y] at h1; rw [show ltOf birdC y z = _ from ltBird y z] at h2; rw [show ltOf birdC x z = _ from ltBird x z]; simp at *; omega
  ntrans x y z h1 h2 := by rw [show ltOf birdC x y = _ from ltBird x y] at h1; rw [show ltOf birdC y z = _ from ltBird y z] at h2; rw [show ltOf birdC x z = _ from ltBird x z]; simp at *; omega
theorem srt_of {l : List Rc} (hu : Uniq l) {d' : Array Rc} (hp : PermIn 0 l.toArray.size l.toArray d') (hs : SortedIn (ltOf birdC) 0 l.toArray.size d') : d' = (srt l).toArray := by
  have e : d'.toList = srt l := srt_unique hu (by simpa using perm_toList hp) (by
    rw [List.pairwise_iff_getElem]
    intro i j hi hj hij
    have hsz : d'.size = l.toArray.size := hp.1
    have hi' : i < d'.size := by simpa using hi
    have hj' : j < d'.size := by simpa using hj
    have := hs i j (Nat.zero_le _) hij (by omega)
    rw [show ltOf birdC d'[j]! d'[i]! = _ from ltBird _ _] at this
    rw [getElem!_pos d' j hj', getElem!_pos d' i hi'] at this
    simp at this
    simpa using this)
  rw [← e]
/-- slices.SortFunc by ring, at a row of one's own -/
theorem sort_own (l : List Rc) (hu : Uniq l) (hl : l.length ≤ 1000) (W : World) (B : Nat) (v : Value) (h : W.ownsRow B 60 5 v l.length (rcV l)) : Calls Tryz.prog 77 #[v, .func (.func 78) #[] #[]] W fun e w' => e = .returned (.tuple #[]) ∧ w'.ownsRow B 60 5 v l.length (rcV (srt l)) ∧ W.grownBy w' v.ownBlock := by
  rcases h.2 with ⟨rfl, h0⟩ | ⟨g, cap, cur, rfl, hb, hg, h1, h2, h3, h4⟩
  · have hl0 : l = [] := List.length_eq_zero_iff.1 h0
    subst hl0
    have hc := AnyF.slices_SortFunc_none Tryz.sortRc none 0 (.func (.func 78) #[] #[]) W
    change Calls Tryz.prog 77 _ _ _ at hc
    refine hc.mono ?_
    rintro e w' ⟨rfl, rfl⟩
    exact ⟨rfl, by rw [show srt [] = [] by simp [srt]]; exact h, World.grownBy.refl _ _⟩
  · have hlt : g < W.heap.size := (Array.getElem?_eq_some_iff.1 hg).1
    have hc := AnyQ.slices_SortFunc Tryz.sortRc 5 Tryz.isAgg60 Tryz.sizeOf60 rcE rcE_len (fun x v hv => by
      simp [rcE, Rc.v] at hv
      rcases hv with rfl | rfl | rfl | rfl | rfl <;> rfl) birdC swoBird 78 #[] g 0 cap l.toArray W (enters_of Tryz.func78 (by kernel_rfl) rfl) (fun m os dk _ x y => closure78 x y _) (holds_rc (n := 0) hg h4) hlt (by simp; omega)
    change Calls Tryz.prog 77 _ _ _ at hc
    rw [show l.toArray.size = l.length by simp] at hc
    refine hc.mono ?_
    rintro e w' ⟨rfl, d', n, os, hp, hs, rfl⟩
    have hd := srt_of hu (by simpa using hp) (by simpa using hs)
    subst hd
    exact ⟨rfl, own_srt (srt_len l) hb hg h1 h2 h3, grownBy_srt _⟩
end Go.Proofs.YtnkmcoljijmgpaaGreat
