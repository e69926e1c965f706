import Derived.Shelf.Sort.Plain
import Derived.Lib.SlKeysI
import Derived.Maps.RangeWalk
import Derived.Test.YtnkmcoljijmgpaaGreatBo
import Derived.Test.YtnkmcoljijmgpaaGreatBr
set_option linter.unusedSimpArgs false
set_option linter.unusedVariables false
namespace Go.Proofs.YtnkmcoljijmgpaaGreat
open Go.RowKit Go.Shelf Go.Maps
attribute [local go_sem] Oper.semAt_some wide_fn wide_dep wideR_fn wideR_dep
def Tryz.sortI_ren : Go.Shelf.Ren := ⟨fun | 189 => 86 | 125 => 102 | 257 => 112 | 128 => 127 | 129 => 128 | 294 => 138 | 295 => 139 | 296 => 140 | 297 => 141 | 298 => 142 | 299 => 143 | 216 => 144 | 300 => 145 | 301 => 146 | 328 => 160 | 329 => 152 | 330 => 153 | 331 => 161 | 332 => 162 | 215 => 82 | 343 => 167 | n => n, fun | 28 => 24 | 3 => 3 | 46 => 72 | 0 => 0 | 51 => 156 | 53 => 158 | 4 => 4 | 183 => 149 | 182 => 148 | 131 => 153 | 5 => 5 | 9 => 9 | 218 => 172 | 222 => 176 | 228 => 182 | 229 => 183 | n => n, fun | n => n⟩
theorem Tryz.sortI : Go.Proofs.Lays.n189 Tryz.prog Tryz.sortI_ren := {
  mixed := by kernel_rfl,
  f125 := Tryz.func102.trans (congrArg some (by kernel_rfl)),
  f128 := Tryz.func127.trans (congrArg some (by kernel_rfl)),
  f129 := Tryz.func128.trans (congrArg some (by kernel_rfl)),
  f189 := Tryz.func86.trans (congrArg some (by kernel_rfl)),
  f215 := Tryz.func82.trans (congrArg some (by kernel_rfl)),
  f216 := Tryz.func144.trans (congrArg some (by kernel_rfl)),
  f257 := Tryz.func112.trans (congrArg some (by kernel_rfl)),
  f294 := Tryz.func138.trans (congrArg some (by kernel_rfl)),
  f295 := Tryz.func139.trans (congrArg some (by kernel_rfl)),
  f296 := Tryz.func140.trans (congrArg some (by kernel_rfl)),
  f297 := Tryz.func141.trans (congrArg some (by kernel_rfl)),
  f298 := Tryz.func142.trans (congrArg some (by kernel_rfl)),
  f299 := Tryz.func143.trans (congrArg some (by kernel_rfl)),
  f300 := Tryz.func145.trans (congrArg some (by kernel_rfl)),
  f301 := Tryz.func146.trans (congrArg some (by kernel_rfl)),
  f328 := Tryz.func160.trans (congrArg some (by kernel_rfl)),
  f329 := Tryz.func152.trans (congrArg some (by kernel_rfl)),
  f330 := Tryz.func153.trans (congrArg some (by kernel_rfl)),
  f331 := Tryz.func161.trans (congrArg some (by kernel_rfl)),
  f332 := Tryz.func162.trans (congrArg some (by kernel_rfl)),
  f343 := Tryz.func167.trans (congrArg some (by kernel_rfl)),
  t0 := Tryz.underlying0,
  a0 := Tryz.isAgg0,
  z0 := Tryz.sizeOf0,
  v0 := Tryz.zeroValue0,
  t3 := Tryz.underlying3,
  a3 := Tryz.isAgg3,
  z3 := Tryz.sizeOf3,
  v3 := Tryz.zeroValue3,
  t4 := Tryz.underlying4,
  a4 := Tryz.isAgg4,
  z4 := Tryz.sizeOf4,
  v4 := Tryz.zeroValue4,
  t5 := Tryz.underlying5,
  a5 := Tryz.isAgg5,
  z5 := Tryz.sizeOf5,
  v5 := Tryz.zeroValue5,
  t9 := Tryz.underlying9,
  a9 := Tryz.isAgg9,
  z9 := Tryz.sizeOf9,
  v9 := Tryz.zeroValue9,
  t28 := Tryz.underlying24,
  a28 := Tryz.isAgg24,
  z28 := Tryz.sizeOf24,
  v28 := Tryz.zeroValue24,
  t46 := Tryz.underlying72,
  a46 := Tryz.isAgg72,
  z46 := Tryz.sizeOf72,
  v46 := Tryz.zeroValue72,
  t51 := Tryz.underlying156,
  a51 := Tryz.isAgg156,
  z51 := Tryz.sizeOf156,
  v51 := Tryz.zeroValue156,
  t53 := Tryz.underlying158,
  a53 := Tryz.isAgg158,
  z53 := Tryz.sizeOf158,
  v53 := Tryz.zeroValue158,
  t131 := Tryz.underlying153,
  a131 := Tryz.isAgg153,
  z131 := Tryz.sizeOf153,
  v131 := Tryz.zeroValue153,
  t182 := Tryz.underlying148,
  a182 := Tryz.isAgg148,
  z182 := Tryz.sizeOf148,
  v182 := Tryz.zeroValue148,
  t183 := Tryz.underlying149,
  a183 := Tryz.isAgg149,
  z183 := Tryz.sizeOf149,
  v183 := Tryz.zeroValue149,
  t218 := Tryz.underlying172,
  a218 := Tryz.isAgg172,
  z218 := Tryz.sizeOf172,
  v218 := Tryz.zeroValue172,
  t222 := Tryz.underlying176,
  a222 := Tryz.isAgg176,
  z222 := Tryz.sizeOf176,
  v222 := Tryz.zeroValue176,
  t228 := Tryz.underlying182,
  a228 := Tryz.isAgg182,
  z228 := Tryz.sizeOf182,
  v228 := Tryz.zeroValue182,
  t229 := Tryz.underlying183,
  a229 := Tryz.isAgg183,
  z229 := Tryz.sizeOf183,
  v229 := Tryz.zeroValue183 }

def sortL (ls : List Int) : List Int := ls.mergeSort fun x y => decide (x ≤ y)
theorem sortL_len (ls : List Int) : (sortL ls).length = ls.length := List.length_mergeSort ls
theorem sortL_perm (ls : List Int) : (sortL ls).Perm ls := List.mergeSort_perm _ _
theorem sortL_pw (ls : List Int) : (sortL ls).Pairwise (· ≤ ·) := by
  have := List.pairwise_mergeSort (le := fun x y : Int => decide (x ≤ y)) (fun a b c h1 h2 => by simp at *; omega) (fun a b => by simp; omega) ls
  exact this.imp fun h => by simpa using h
open Go.Sort in
theorem sortI_own (ls : List Int) (hl : ls.length ≤ 1000) (W : World) (B : Nat) (v : Value) (h : W.ownsRow B 3 1 v ls.length (iv ls)) : Calls Tryz.prog 86 #[v] W fun e w' => e = .returned (.tuple #[]) ∧ w'.ownsRow B 3 1 v ls.length (iv (sortL ls)) ∧ W.grownBy w' v.ownBlock := by
  rcases h.2 with ⟨rfl, h0⟩ | ⟨gb, cap, cur, rfl, hbase, hgb, r1, r2, r3, r4⟩
  · have hl0 : ls = [] := List.length_eq_zero_iff.1 h0
    subst hl0
    refine (show Calls Tryz.prog 86 #[.slice none 0 0] W (fun e w' => e = .returned (.tuple #[]) ∧ w' = W) from Any.slices_Sort_int_none Tryz.sortI none 0 W).mono ?_
    rintro e w' ⟨rfl, rfl⟩
    exact ⟨rfl, by rw [show sortL [] = [] by simp [sortL]]; exact h, World.grownBy.refl _ _⟩
  · have hH : Holds encZ W gb 0 ls.toArray := holds_of_block_i hgb (by rw [Nat.mul_one] at r4; exact r4)
    have hS : Calls Tryz.prog 86 #[.slice (some ⟨gb, 0, none⟩) ls.length cap] W fun e w' => e = .returned (.tuple #[]) ∧ ∃ n os, w' = grow (putRow (Value.int .i64) (Sort.ahead W n) gb 0 (ls.mergeSort fun x y => decide (x ≤ y)).toArray) os := Any.slices_Sort_int Tryz.sortI gb 0 cap ls W hH (Array.getElem?_eq_some_iff.1 hgb).1 (by omega)
    refine hS.mono ?_
    rintro e w' ⟨rfl, nn, os, rfl⟩
    exact ⟨rfl, ownsRow_sorted_i (sortL_len ls) hbase hgb r1 r2 r3, grownBy_sorted_i _⟩
end Go.Proofs.YtnkmcoljijmgpaaGreat
