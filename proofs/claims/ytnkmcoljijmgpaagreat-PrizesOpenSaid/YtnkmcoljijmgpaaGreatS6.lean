import Derived.Below
import Derived.BigQuiet
import Derived.ChangeOld
import Derived.Deep.AppendLies
import Derived.Deep.Draws
import Derived.Deep.QuietTactic
import Derived.Deep.RegionHeld
import Derived.Deep.Slices
import Derived.Ground.Names2Prog
import Derived.Ground.SlsfProg
import Derived.Ground.SlsoProg
import Derived.IntWalk
import Derived.Laws.AppendOwn
import Derived.Laws.AppendOwnNone
import Derived.Laws.Bits128
import Derived.Laws.OwnMore
import Derived.Laws.Rows
import Derived.Laws.StructEq
import Derived.Lib.Hide
import Derived.Lib.SlKeysI
import Derived.Lib.SliceRun
import Derived.Lib.SmallJoins
import Derived.LoopIn
import Derived.LoopNIn
import Derived.Maps.OwnIn
import Derived.Maps.RangeWalk
import Derived.OpenShut
import Derived.OrdersHeld
import Derived.OrdersIn
import Derived.Outline
import Derived.OwnWalkIn
import Derived.ProofKit
import Derived.RangeFuncBound
import Derived.RangeFuncCalls
import Derived.RangeFuncLeaves
import Derived.RangeFuncNested
import Derived.Shelf.Abstract
import Derived.Shelf.GgSortFunc.InsertionK
import Derived.Shelf.RegionOpen
import Derived.Shelf.SlSortCmp.NoneTotal
import Derived.Shelf.SlSortCmp.WholeK
import Derived.Shelf.SlSorted.Search
import Derived.Shelf.Slices.Cells
import Derived.Shelf.Slices.CompactI
import Derived.Shelf.Slices.In.SortNone
import Derived.Shelf.Slices.SearchI
import Derived.Shelf.Small.Bits
import Derived.Shelf.Sort.Plain
import Derived.Shelf.Strconv.Itoa0
import Derived.Sort.Grow
import Derived.Sort.MapsRangeIn
import Derived.TacticsIn
import Derived.TacticsInMore
import Derived.Test.YtnkmcoljijmgpaaGreatProg
import Derived.WalkKit
import Derived.WalkSpells
import Derived.Test.YtnkmcoljijmgpaaGreatS5
set_option linter.unusedSimpArgs false
set_option linter.unusedVariables false
namespace Go.Proofs.YtnkmcoljijmgpaaGreat
open Go.RowKit Go.Shelf Go.Sort Go.Maps
attribute [local go_sem] Oper.semAt_some
theorem inL_iff {l : List Int} {n : Int} : inL l n = true ↔ n ∈ l := by
  unfold inL anyU
  rw [List.any_eq_true]
  constructor
  · rintro ⟨i, hi, e⟩
    have hi' := List.mem_range.1 hi
    have e2 : n = l.getD i 0 := by simpa using e
    rw [e2, List.getD_eq_getElem?_getD, List.getElem?_eq_getElem hi']
    exact List.getElem_mem hi'
  · intro h
    obtain ⟨i, hi, rfl⟩ := List.mem_iff_getElem.1 h
    exact ⟨i, List.mem_range.2 hi, by simp [List.getD_eq_getElem?_getD, hi]⟩
/-- the first ones of a case -/
def firstL (f : Fu) (st : List Int) : List Int := (orderL f st).getD 0 []
/-- in how many of some cases a bird is among the first ones -/
def cntI (f : Fu) (sts : List (List Int)) (b : Int) : Int := ((sts.filter fun st => inL (firstL f st) b).length : Nat)
theorem cntI_snoc (f : Fu) (l : List (List Int)) (st : List Int) (b : Int) : cntI f (l ++ [st]) b = cntI f l b + (if inL (firstL f st) b = true then 1 else 0) := by
  unfold cntI
  rw [List.filter_append, List.length_append]
  by_cases h : inL (firstL f st) b = true
  · simp [h]
  · simp [h]
theorem cntI_bd (f : Fu) (l : List (List Int)) (b : Int) : 0 ≤ cntI f l b ∧ cntI f l b ≤ l.length := by
  unfold cntI
  have := List.length_filter_le (fun st => inL (firstL f st) b) l
  omega
theorem firstL_facts {f : Fu} {st : List Int} (hu : Uniq f.rs) : (firstL f st).Nodup ∧ (∀ b ∈ firstL f st, ∃ x ∈ f.rs, x.bird = b) ∧ (0 < (orderL f st).length → 0 < (firstL f st).length) ∧ (firstL f st).length ≤ f.rs.length := by
  have hflat : (orderL f st).flatten.Nodup := by
    rw [orderL_flat]
    unfold List.Nodup
    rw [List.pairwise_map]
    exact takers_uniq hu st
  have hmem : ∀ b ∈ (orderL f st).flatten, ∃ x ∈ f.rs, x.bird = b := fun b hb => by
    rw [orderL_flat] at hb
    obtain ⟨x, hx, e⟩ := List.mem_map.1 hb
    exact ⟨x, (takers_mem.1 hx).1, e⟩
  have hlen : (orderL f st).flatten.length ≤ f.rs.length := by
    rw [orderL_flat, List.length_map]
    exact takers_len f st
  have hne := orderL_ne f st
  unfold firstL
  cases ho : orderL f st with
  | nil => exact ⟨List.Pairwise.nil, fun b hb => by simp at hb, fun h => by simp at h, by simp⟩
  | cons g gs =>
    rw [ho] at hflat hmem hne hlen
    rw [List.flatten_cons] at hflat hmem hlen
    show g.Nodup ∧ (∀ b ∈ g, ∃ x ∈ f.rs, x.bird = b) ∧ (_ → 0 < g.length) ∧ g.length ≤ _
    refine ⟨(List.pairwise_append.1 hflat).1, fun b hb => hmem b (List.mem_append_left _ hb), fun _ => List.length_pos_iff.2 (hne g (List.mem_cons_self ..)), ?_⟩
    rw [List.length_append] at hlen
    omega
/-- the counts behind the cases pre, and the first k birds of another one -/
structure CtS (f : Fu) (pre : List (List Int)) (g : List Int) (k : Nat) (ps : List Pu) : Prop where
  uniq : UniqP ps
  cnt : ∀ b, (atP ps b).staked = cntI f pre b + (if inL (g.take k) b = true then 1 else 0)
  pos : ∀ q ∈ ps, 1 ≤ q.staked ∧ q.staked ≤ 1000
  own : ∀ q ∈ ps, ∃ x ∈ f.rs, x.bird = q.owner
theorem CtS.start (f : Fu) (g : List Int) : CtS f [] g 0 [] := ⟨List.Pairwise.nil, fun b => by rw [List.take_zero]; rfl, fun q h => by simp at h, fun q h => by simp at h⟩
theorem CtS.step {f : Fu} {pre : List (List Int)} {g : List Int} {k : Nat} {ps : List Pu} (h : CtS f pre g k ps) (hk : k < g.length) (hn : g.Nodup) (hm : ∀ b ∈ g, ∃ x ∈ f.rs, x.bird = b) (hp : pre.length ≤ 100) :
    CtS f pre g (k + 1) (putP ps ⟨g.getD k 0, (atP ps (g.getD k 0)).staked + 1, 0⟩) := by
  have hg : g.getD k 0 = g[k] := by simp [List.getD_eq_getElem?_getD, hk]
  have hnot : inL (g.take k) (g.getD k 0) = false := by
    rw [← Bool.not_eq_true, inL_iff, hg]
    intro hx
    obtain ⟨i, hi, e⟩ := List.mem_iff_getElem.1 hx
    rw [List.length_take] at hi
    rw [List.getElem_take] at e
    exact List.pairwise_iff_getElem.1 hn i k (by omega) hk (by omega) e
  have htk : g.take (k + 1) = g.take k ++ [g.getD k 0] := by
    rw [List.take_add_one, List.getElem?_eq_getElem hk, hg]
    rfl
  have hin : ∀ b, inL (g.take (k + 1)) b = true ↔ inL (g.take k) b = true ∨ b = g.getD k 0 := fun b => by
    rw [inL_iff, inL_iff, htk, List.mem_append, List.mem_singleton]
  have hc := h.cnt (g.getD k 0)
  rw [hnot] at hc
  have hbd := cntI_bd f pre (g.getD k 0)
  refine ⟨putP_uniq h.uniq _, fun b => ?_, fun q hq => ?_, fun q hq => ?_⟩
  · rw [atP_put]
    by_cases e : g.getD k 0 = b
    · subst e
      rw [if_pos rfl, if_pos ((hin _).2 (.inr rfl))]
      show (atP ps (g.getD k 0)).staked + 1 = _
      rw [hc]
      simp
    · rw [if_neg e, h.cnt b]
      by_cases e2 : inL (g.take k) b = true
      · rw [if_pos e2, if_pos ((hin b).2 (.inl e2))]
      · rw [if_neg e2, if_neg (fun e3 => by
          rcases (hin b).1 e3 with e4 | e4
          · exact e2 e4
          · exact e e4.symm)]
  · rcases putP_mem hq with rfl | ⟨hq, _⟩
    · show 1 ≤ (atP ps (g.getD k 0)).staked + 1 ∧ (atP ps (g.getD k 0)).staked + 1 ≤ 1000
      rw [hc]
      simp only [Bool.false_eq_true, if_false]
      omega
    · exact h.pos q hq
  · rcases putP_mem hq with rfl | ⟨hq, _⟩
    · exact hm _ (by rw [show (⟨g.getD k 0, (atP ps (g.getD k 0)).staked + 1, 0⟩ : Pu).owner = g.getD k 0 from rfl, hg]; exact List.getElem_mem hk)
    · exact h.own q hq
theorem CtS.next {f : Fu} {pre : List (List Int)} {st : List Int} {ps : List Pu} (h : CtS f pre (firstL f st) (firstL f st).length ps) (g : List Int) : CtS f (pre ++ [st]) g 0 ps := by
  refine ⟨h.uniq, fun b => ?_, h.pos, h.own⟩
  rw [h.cnt b, List.take_length, cntI_snoc, List.take_zero]
  simp [inL, anyU]
theorem CtS.turn {f : Fu} {pre : List (List Int)} {g : List Int} {ps : List Pu} (h : CtS f pre g 0 ps) (g' : List Int) : CtS f pre g' 0 ps := ⟨h.uniq, fun b => by rw [h.cnt b, List.take_zero, List.take_zero], h.pos, h.own⟩
theorem len_sub : ∀ (l m : List Int), l.Nodup → (∀ x ∈ l, x ∈ m) → l.length ≤ m.length
  | [], _, _, _ => Nat.zero_le _
  | a :: l, m, hn, h => by
    have hn2 := List.nodup_cons.1 hn
    have ha := h a (List.mem_cons_self ..)
    have := len_sub l (m.erase a) hn2.2 (fun x hx => (List.mem_erase_of_ne (fun e => hn2.1 (by rw [← e]; exact hx))).2 (h x (List.mem_cons_of_mem _ hx)))
    rw [List.length_erase_of_mem ha] at this
    have h0 : 0 < m.length := List.length_pos_of_mem ha
    rw [List.length_cons]
    omega
theorem CtS.len {f : Fu} {pre : List (List Int)} {g : List Int} {k : Nat} {ps : List Pu} (h : CtS f pre g k ps) : ps.length ≤ f.rs.length := by
  have := len_sub (ps.map Pu.owner) (f.rs.map Rc.bird) (by unfold List.Nodup; rw [List.pairwise_map]; exact h.uniq) (fun x hx => by
    obtain ⟨q, hq, rfl⟩ := List.mem_map.1 hx
    obtain ⟨y, hy, e⟩ := h.own q hq
    exact List.mem_map.2 ⟨y, hy, e⟩)
  rwa [List.length_map, List.length_map] at this
def apart (v1 v2 : Value) : Prop := ∀ g, v1.ownBlock = some g → v2.ownBlock = some g → False
theorem within_grow {w2 WX w4 : World} {v1 v1' v2 : Value} {n1 n2 z : Nat} {xs1 xs2 : List Value} (hG : G w2 WX) (h1 : WX.ownsRow w2.heap.size 3 1 v1 n1 xs1) (h2 : WX.ownsRow w2.heap.size 3 1 v2 n2 xs2) (hap : apart v1 v2)
    (hg : WX.grownBy w4 v1.ownBlock) (hz : z = WX.heap.size) (hat : v1'.ownBlock = v1.ownBlock ∨ v1'.ownBlock = some z) :
    w4.ownsRow w2.heap.size 3 1 v2 n2 xs2 ∧ apart v1' v2 ∧ G w2 w4 := by
  refine ⟨h2.kept hg ?_, fun g e1 e2 => ?_, (Fr.grown (G.fr (R := fun _ => False) hG) hg (fun g e => .inr (own_base h1 e))).toG (fun _ _ h => h)⟩
  · cases hv : v2.ownBlock with
    | none => exact .inl rfl
    | some g => exact .inr (fun e => hap g e.symm hv)
  · rcases hat with e | e
    · exact hap g (e ▸ e1) e2
    · rw [e] at e1
      obtain rfl : z = g := by injection e1
      rcases h2.2 with ⟨rfl, _⟩ | ⟨g', cap, cur, rfl, _, hb, _⟩
      · cases e2
      · have h3 := (Array.getElem?_eq_some_iff.1 hb).1
        have e3 : g' = z := by injection e2
        omega
/-- what First says: S surely, M perhaps -/
structure FiOk (f : Fu) (sts : List (List Int)) (S M : List Int) : Prop where
  sure : ∀ b, b ∈ S ↔ 0 < cntI f sts b ∧ cntI f sts b = sts.length
  maybe : ∀ b, b ∈ M ↔ 0 < cntI f sts b ∧ cntI f sts b ≠ sts.length
  asS : S.Pairwise (· < ·)
  asM : M.Pairwise (· < ·)
  len : S.length + M.length ≤ f.rs.length
theorem filt_len (p : Int → Bool) : ∀ l : List Int, (l.filter p).length + (l.filter fun x => !p x).length = l.length
  | [] => rfl
  | a :: l => by
    have ih := filt_len p l
    cases h : p a
    · rw [List.filter_cons_of_neg (by simp [h]), List.filter_cons_of_pos (by simp [h]), List.length_cons, List.length_cons]
      omega
    · rw [List.filter_cons_of_pos h, List.filter_cons_of_neg (by simp [h]), List.length_cons, List.length_cons]
      omega
def ctP (ps : List Pu) (n : Int) (b : Int) : Bool := (atP ps b).staked == n
theorem CtS.fin {f : Fu} {pre : List (List Int)} {ps : List Pu} (h : CtS f pre [] 0 ps) : FiOk f pre ((sortL (ps.map Pu.owner)).filter (ctP ps pre.length)) ((sortL (ps.map Pu.owner)).filter fun b => !ctP ps pre.length b) := by
  have hc : ∀ b, (atP ps b).staked = cntI f pre b := fun b => by
    rw [h.cnt b]
    simp [inL, anyU]
  have hmem : ∀ b, b ∈ sortL (ps.map Pu.owner) ↔ 0 < cntI f pre b := fun b => by
    rw [(sortL_perm _).mem_iff, ← hc b]
    constructor
    · intro hb
      obtain ⟨q, hq, rfl⟩ := List.mem_map.1 hb
      unfold atP
      cases hf : ps.find? fun p => p.owner == q.owner with
      | none => exact absurd (List.find?_eq_none.1 hf q hq) (by simp)
      | some q' => exact Int.lt_of_lt_of_le (by decide) (h.pos q' (List.mem_of_find?_eq_some hf)).1
    · intro hb
      unfold atP at hb
      cases hf : ps.find? fun p => p.owner == b with
      | none => rw [hf] at hb; simp at hb
      | some q' => exact List.mem_map.2 ⟨q', List.mem_of_find?_eq_some hf, by simpa using List.find?_some hf⟩
  have hlt : (sortL (ps.map Pu.owner)).Pairwise (· < ·) := by
    have h1 := sortL_pw (ps.map Pu.owner)
    have h2 : (sortL (ps.map Pu.owner)).Nodup := (sortL_perm _).nodup_iff.2 (by unfold List.Nodup; rw [List.pairwise_map]; exact h.uniq)
    exact List.Pairwise.imp₂ (fun a b h k => by omega) h1 h2
  refine ⟨fun b => ?_, fun b => ?_, hlt.sublist List.filter_sublist, hlt.sublist List.filter_sublist, ?_⟩
  · rw [List.mem_filter, hmem b]
    unfold ctP
    rw [hc b]
    simp
  · rw [List.mem_filter, hmem b]
    unfold ctP
    rw [hc b]
    simp
  · rw [filt_len, sortL_len, List.length_map]
    exact h.len
theorem filt_take {l : List Int} {k : Nat} (p : Int → Bool) (h : k < l.length) : (l.take (k + 1)).filter p = if p (l.getD k 0) = true then (l.take k).filter p ++ [l.getD k 0] else (l.take k).filter p := by
  have hg : l.getD k 0 = l[k] := by simp [List.getD_eq_getElem?_getD, h]
  rw [List.take_add_one, List.getElem?_eq_getElem h, List.filter_append, hg]
  cases hp : p l[k] <;> simp [hp]
def FiPost (r : Ra) (p : Int) (w : World) (e : Ending) (w' : World) : Prop := G w w' ∧ ((qE r p [] ≠ 0 ∧ e = .returned (.tuple #[.slice none 0 0, .slice none 0 0, .int .i64 (qE r p [])])) ∨ (qE r p [] = 0 ∧ ∃ (v1 v2 : Value) (S M : List Int), e = .returned (.tuple #[v1, v2, .int .i64 0]) ∧ w'.ownsRow w.heap.size 3 1 v1 S.length (iv S) ∧ w'.ownsRow w.heap.size 3 1 v2 M.length (iv M) ∧ FiOk (fuOf r p none 0) (caseL r.protests) S M))
end Go.Proofs.YtnkmcoljijmgpaaGreat

set_option linter.unusedSimpArgs false
set_option linter.unusedVariables false
namespace Go.Proofs.YtnkmcoljijmgpaaGreat
open Go.RowKit Go.Shelf Go.Sort Go.Maps
attribute [local go_sem] Oper.semAt_some wide_fn wide_dep wideR_fn wideR_dep
/-- what a case hands: the birds that are struck, in a block of its own -/
def YdAt2 (B : Nat) (x : Yd) (W : World) : Prop := YdAt x W ∧ ∀ b o, x.a = some ⟨b, o, none⟩ → B ≤ b
theorem YdAt2.put {B : Nat} (x : Yd) (W : World) (l : Nat) (o o' : Obj) (ho : W.heap[l]? = some o) (hc : o.isCells = false) (h : YdAt2 B x W) : YdAt2 B x (W.putObj l o') := ⟨YdAt.put x W l o o' ho hc h.1, h.2⟩
set_option maxRecDepth 100000 in
set_option maxHeartbeats 8000000 in
theorem cases_seq2 (n : Nat) (hn : 1 ≤ n) (K : Nat) (C : Nat → Prop) (f : Fu) (w : World) (hB : Blk w K 85 f.v) (hp : IntsAt w f.pa f.ps) (hl : f.ps.length ≤ 4) (hK : ¬ C K) (hpc : f.ps = [] ∨ ∀ b o, f.pa = some ⟨b, o, none⟩ → b < w.heap.size ∧ ¬ C b) :
    SeqY (· = 3) Fence.wide n Tryz.prog 84 #[.pointer (some ⟨K, 0, none⟩)] Yd.v (YdAt2 w.heap.size) (KP w.heap.size C) (fun xs => xs.map Yd.st = caseL f.ps) (fun _ => True) (2 ^ f.ps.length) w := by
  intro l J Jx W hW hJ hJx hY h0
  have hBW := hB.keep hW
  have hpW := hp.below hW
  have hwW := hW.size
  have hKw := hB.lt
  have HCT := Lib.hid (fun (k : Nat) (hk : k < 2 ^ f.ps.length) => caseL_take f.ps hk)
  have HCL : Hid ((caseL f.ps).take (2 ^ f.ps.length) = caseL f.ps) := by rw [← caseL_len]; exact List.take_length
  generalize caseL f.ps = CL at *
  clear hB hp hW
  obtain ⟨⟨ystake, ycut, ykind, yta, ytc, ytable, yquota, yfirst⟩, fa, fc, rs, pa, pc, ps⟩ := f
  unfold Fu.v at *
  dsimp only at *
  have m7 := hBW.cell 7
  have lK := hBW.lt
  have hp16 : 2 ^ ps.length ≤ 16 := Nat.pow_le_pow_right (n := 2) (by decide) hl
  refine callsIn_of_wp Tryz.func84 rfl trivial ?_ rfl
  simp only [Tryz.ntmps84, List.size_toArray, List.length_cons, List.length_nil, Nat.reduceAdd, Nat.reduceSub, Array.replicate_succ, Array.replicate_zero, List.push_toArray, List.append_toArray, List.nil_append, List.cons_append]
  gi_wp2_with fail
  have hw64 : wrap64 ((2 : Int) ^ ps.length) = ((2 ^ ps.length : Nat) : Int) := by
    have e : ((2 : Int) ^ ps.length) = ((2 ^ ps.length : Nat) : Int) := by simp
    rw [e]
    have h5 : ∀ N : Nat, N ≤ 16 → wrap64 (N : Int) = N := fun N h => IntWalk.wrap64_in _ (by omega)
    exact h5 _ hp16
  rw [hw64]
  clear hw64
  obtain ⟨NN, hNN⟩ : ∃ NN, NN = 2 ^ ps.length := ⟨_, rfl⟩
  rw [← hNN] at hp16 HCT HCL hY ⊢
  have h00 : Hid (∃ p' : List Yd, p'.map Yd.st = CL.take 0 ∧ J p' W) := ⟨[], by simp, h0⟩
  have HNN := Lib.hid hNN
  clear hNN h0
  have HY := Lib.hid hY
  have HpW := Lib.hid hpW
  have hand := i64_and1
  clear hY hpW m7
  gi_loopw [11] (fun i wr => ∃ k : Nat, k ≤ NN ∧ i = .int .i64 k ∧ Hid (∃ p' : List Yd, p'.map Yd.st = CL.take k ∧ J p' wr) ∧ Hid (KP w.heap.size C W wr)) (fun i _ => NN - (intOf i).toNat)
  case atStart => exact ⟨0, Nat.zero_le _, rfl, h00, KP.rf _ _ _⟩
  case round =>
    clear h00
    obtain ⟨k, hk, rfl, HJ, HK⟩ := hrel
    obtain ⟨wo, rfl⟩ : ∃ wo, wo = wr := ⟨_, rfl⟩
    by_cases hlt : k < NN
    · have hki : (k : Int) < NN := by omega
      have bK := HK.out.blk hBW hKw hK
      have m7 := bK.cell 7
      have lK2 := bK.lt
      have hWo : W.heap.size ≤ wo.heap.size := HK.out.1
      gi_wp2_with fail
      clear m7
      gi_loopw [4, 17] (fun v i wi => ∃ j : Nat, j ≤ ps.length ∧ i = .int .i64 j ∧ Hid (wi.ownsRow wo.heap.size 3 1 v (stTo ps k j).length (iv (stTo ps k j))) ∧ Hid (Kt (· = 3) W.heap.size wo wi)) (fun _ i _ => ps.length - (intOf i).toNat)
      case atStart => exact ⟨0, Nat.zero_le _, rfl, World.ownsRow_nil _ _ _ _, Kt.rf _ _ _⟩
      case round =>
        obtain ⟨j, hj, rfl, HO, HT⟩ := hrel
        obtain ⟨wi, rfl⟩ : ∃ wi, wi = wr := ⟨_, rfl⟩
        obtain ⟨va, vc, rfl⟩ := own_slice HO.out
        have HKI := Lib.hid (HK.out.t (KP.kt (C := C) HT.out hwW (by omega)))
        by_cases hjl : j < ps.length
        · have hji : (j : Int) < ps.length := by omega
          rcases HKI.out.ints HpW.out hpc with h | ⟨gb, off, rfl, lgb, hcell⟩
          · rw [h] at hjl; simp at hjl
          have q0 := hcell j hjl
          have hst : stTo ps k (j + 1) = if bitB k j = true then stTo ps k j ++ [ps.getD j 0] else stTo ps k j := rfl
          have hjn : j ≤ 64 := by omega
          have hj0 : (0 : Int) ≤ j := by omega
          have hj64 : (j : Int) ≤ 64 := by omega
          have hbit := bit_int k j
          have hsl := stTo_len ps k j
          obtain ⟨z, hz⟩ : ∃ z, z = ps.getD j 0 := ⟨_, rfl⟩
          rw [← hz] at q0 hst
          clear hz hcell
          cases hb : bitB k j
          · rw [hb] at hbit hst
            have HST := Lib.hid (show stTo ps k (j + 1) = stTo ps k j by simpa using hst)
            clear hst hb
            gi_wp2_with fail
            go_roundw
            case rel => exact ⟨j + 1, by omega, by go_num, by rw [HST.out]; exact HO.out, HT.out⟩
            case measure => simp [intOf] <;> omega
          · rw [hb] at hbit hst
            have HST := Lib.hid (show stTo ps k (j + 1) = stTo ps k j ++ [z] by simpa using hst)
            clear hst hb
            obtain ⟨i0, hi0, hz0, hz1, hz2⟩ := info_parts info3
            have hsz := HT.out.size
            have HOA := Lib.hid (own_G HO.out ((G.rf wi).a (.cells #[.int .i64 z] 3)))
            obtain ⟨q, hq⟩ : ∃ q, q = stTo ps k j := ⟨_, rfl⟩
            rw [← hq] at HOA HST hsl ⊢
            clear hq
            gi_wp2_with (gi_at_builtin; refine wpListIn_append_own _ rfl _ _ 24 rfl wo.heap.size 3 i0 (.int .i64 0) 1 8 Tryz.underlying24 hi0 hz0 hz1 hz2 rfl (by decide) _ q.length (iv q) rfl HOA.out ⟨wi.heap.size, 0, none⟩ 1 1 [.int .i64 z] rfl rfl (cell_one_new _ _ _) (by simp [Value.oneCell']) (by unfold maxLen; omega) (by omega) (by simp only [World.alloc, Array.size_push]; omega) ?_; intro v9 w9 hown9 hg9 hnil9; go_frame)
            go_roundw
            case rel => exact ⟨j + 1, by omega, by go_num, by rw [HST.out, List.length_append, iv_snoc]; exact hown9, (HT.out.t (G.kt ((G.rf wi).a _))).t (kt_grown HOA.out hWo hg9)⟩
            case measure => simp [intOf] <;> omega
        · obtain rfl : j = ps.length := by omega
          have hji : ¬ ((ps.length : Nat) : Int) < ps.length := by omega
          obtain ⟨p', hp', hj'⟩ := HJ.out
          have hji2 := hJ p' wo wi hj' HT.out
          have hlen : p'.length < NN := by
            have := congrArg List.length hp'
            rw [List.length_map, List.length_take] at this
            omega
          have hct := HCT.out k hlt
          have hyi : IntsAt wi va (stTo ps k ps.length) := by
            obtain ⟨a, c, e, hi⟩ := own_ints HO.out
            injection e with e1 e2 e3
            rw [e1]
            exact hi
          have hyb : ∀ b o, (⟨va, vc, stOf ps k⟩ : Yd).a = some ⟨b, o, none⟩ → w.heap.size ≤ b := fun b o e => by
            have e' : va = some ⟨b, o, none⟩ := e
            rcases HO.out.2 with ⟨e1, _⟩ | ⟨g, cap, cur, e1, hb, _⟩
            · injection e1 with e1
              rw [e'] at e1
              cases e1
            · injection e1 with e1
              rw [e'] at e1
              injection e1 with e1
              injection e1 with e1
              omega
          obtain ⟨fn, tmps, assign, body, hy', hR⟩ := HY.out p' ⟨va, vc, stOf ps k⟩ wi hji2 ⟨⟨hyi, Nat.le_trans (stTo_len ps k _) hl⟩, hyb⟩ hlen
          dsimp only [Yd.v] at hy'
          have hR2 := Lib.hid hR
          have HCTT := Lib.hid hct
          clear hR hct hji2 hj'
          unfold stOf at hy'
          have HPP := Lib.hid (show ((p' ++ [(⟨va, vc, stOf ps k⟩ : Yd)]).map Yd.st) = CL.take (k + 1) by rw [List.map_append, hp', HCTT.out]; rfl)
          clear hp' hyi
          gi_wp2_with fail
          refine hR2.out.mono ?_
          rintro e W3 (⟨rfl, hJ3, hk3⟩ | ⟨rfl, hJx3⟩)
          · gi_wp2_with fail
            go_roundw
            case rel => exact ⟨k + 1, by omega, by go_num, ⟨_, HPP.out, hJ3⟩, HKI.out.t hk3⟩
            case measure => simp [intOf] <;> omega
          · gi_wp2_with fail
            refine bodyPost_ret (results_none rfl _ _ _) rfl ?_
            exact ⟨⟨_, rfl⟩, .inr ⟨_, trivial, hJx3⟩⟩
    · obtain rfl : k = NN := by omega
      have hki : ¬ ((k : Nat) : Int) < k := by omega
      obtain ⟨p', hp', hj'⟩ := HJ.out
      rw [HCL.out] at hp'
      gi_wp2_with fail
      go_end0
      exact ⟨⟨_, rfl⟩, .inl ⟨p', hp', hj'⟩⟩
end Go.Proofs.YtnkmcoljijmgpaaGreat

set_option linter.unusedSimpArgs false
set_option linter.unusedVariables false
namespace Go.Proofs.YtnkmcoljijmgpaaGreat
open Go.RowKit Go.Shelf Go.Sort Go.Maps
attribute [local go_sem] Oper.semAt_some wide_fn wide_dep wideR_fn wideR_dep
def FiI (fu : Fu) (K : Nat) (Wb : World) (pre : List Yd) (W : World) : Prop := ∃ (N : Nat) (ps : List Pu), Blk W (K + 1) 3 #[.int .i64 (pre.length : Nat)] ∧ CnM W (K + 1 + 1) N ps ∧ CtS fu (pre.map Yd.st) [] 0 ps ∧ N ≤ 12 * pre.length ∧ Fr (fun i => i = K + 1 ∨ i = K + 1 + 1) Wb W
theorem FiI.mk {fu : Fu} {K : Nat} {Wb W : World} {pre : List Yd} {N : Nat} {ps : List Pu} (h1 : Blk W (K + 1) 3 #[.int .i64 (pre.length : Nat)]) (h2 : CnM W (K + 1 + 1) N ps) (h3 : CtS fu (pre.map Yd.st) [] 0 ps) (h4 : N ≤ 12 * pre.length) (h5 : Fr (fun i => i = K + 1 ∨ i = K + 1 + 1) Wb W) : FiI fu K Wb pre W := ⟨N, ps, h1, h2, h3, h4, h5⟩
theorem res29 (tmps : Array Value) (w : World) (a b c : Value) (h4 : tmps.getD 4 undef = a) (h5 : tmps.getD 5 undef = b) (h6 : tmps.getD 6 undef = c) :
    (results Tryz.f29 tmps).run Tryz.prog w = .ok (.tuple #[a, b, c]) w := by
  have hr : Tryz.f29.results = #[.tmp 4, .tmp 5, .tmp 6] := rfl
  have h4' : tmps[4]?.getD undef = a := by simpa using h4
  have h5' : tmps[5]?.getD undef = b := by simpa using h5
  have h6' : tmps[6]?.getD undef = c := by simpa using h6
  simp only [results, hr]
  go_simp
set_option maxRecDepth 100000 in
set_option maxHeartbeats 8000000 in
theorem First_any (r : Ra) (p : Int) (w : World) (h : r.At w) : Calls Tryz.prog 29 #[.agg r.v, .int .i64 p] w (FiPost r p w) := by
  have HQ := Lib.hid (fun (W : World) (hW : G w W) => question_any r p [] none 0 W (h.keep hW) (.inl rfl) (by simp))
  have HE : Hid (qE r p [] ≠ 0 → ∀ W', G w W' → FiPost r p w (.returned (.tuple #[.slice none 0 0, .slice none 0 0, .int .i64 (qE r p [])])) W') := fun a W' b => ⟨b, .inl ⟨a, rfl⟩⟩
  have HS : Hid (qE r p [] = 0 → ∀ (v1 v2 : Value) (S M : List Int) W', G w W' → W'.ownsRow w.heap.size 3 1 v1 S.length (iv S) → W'.ownsRow w.heap.size 3 1 v2 M.length (iv M) → FiOk (fuOf r p none 0) (caseL r.protests) S M → FiPost r p w (.returned (.tuple #[v1, v2, .int .i64 0])) W') := fun a v1 v2 S M W' b c d e => ⟨b, .inr ⟨a, v1, v2, S, M, rfl, c, d, e⟩⟩
  have HC := Lib.hid (fun (hq : qE r p [] = 0) (W : World) (hW : G w W) (B : Nat) (fa : Option Addr) (fc : Nat) (ho : W.ownsRow B 60 5 (.slice fa (runners r p).length fc) (runners r p).length (rcV (runners r p))) => gf_of (qE_parts hq).1 (qE_parts hq).2 (h.keep hW) ho)
  unfold QPost at HQ
  have hv : ∀ fa fc, (fuOf r p fa fc).v = #[.int .i64 (poolAt r p).stake, .int .i64 (poolAt r p).cut, .int .i64 (poolAt r p).kind, .slice (poolAt r p).ta (poolAt r p).table.length (poolAt r p).tc, .int .i64 (poolAt r p).quota, .bool (poolAt r p).first, .slice fa (runners r p).length fc, .slice r.ta r.protests.length r.tc] := fun _ _ => rfl
  have hNo : ∀ W, ¬ FiPost r p w .outgrown W := fun W ⟨_, hh⟩ => by rcases hh with ⟨_, e⟩ | ⟨_, _, _, _, _, e, _⟩ <;> cases e
  have hprot := h.ts
  have hpl4 : qE r p [] = 0 → r.protests.length ≤ 4 := fun hq => race_np (qE_parts hq).1
  generalize FiPost r p w = PP at *
  clear h
  obtain ⟨W1, hW1⟩ : ∃ W1, W1 = w.alloc (.cells #[.slice r.ra r.racers.length r.rc, .slice r.pa r.pools.length r.pc, .slice r.ta r.protests.length r.tc] 26) := ⟨_, rfl⟩
  have g0 : G w W1 := by rw [hW1]; exact (G.rf _).a _
  have b0 : Blk W1 w.heap.size 26 #[.slice r.ra r.racers.length r.rc, .slice r.pa r.pools.length r.pc, .slice r.ta r.protests.length r.tc] := by rw [hW1]; exact Blk.new _ _ _
  have hrv : r.v = #[.slice r.ra r.racers.length r.rc, .slice r.pa r.pools.length r.pc, .slice r.ta r.protests.length r.tc] := rfl
  rw [hrv] at HQ ⊢
  clear hrv
  generalize hQE : qE r p [] = QE at *
  refine (callsIn_wide (n := 4)).1 ?_
  refine callsIn_of_wp_marks Tryz.func29 rfl trivial ?_ rfl
  simp only [Tryz.ntmps29, List.size_toArray, List.length_cons, List.length_nil, Nat.reduceAdd, Nat.reduceSub, Array.replicate_succ, Array.replicate_zero, List.push_toArray, List.append_toArray, List.nil_append, List.cons_append]
  have m0 := b0.cell 0
  have m1 := b0.cell 1
  have m2 := b0.cell 2
  have l0 := b0.lt
  by_cases hq : QE = 0
  · have HQ1 : Hid (Calls Tryz.prog 46 #[.agg #[.slice r.ra r.racers.length r.rc, .slice r.pa r.pools.length r.pc, .slice r.ta r.protests.length r.tc], .int .i64 p, .slice none 0 0] W1 fun e w' => ∃ fa fc, e = .returned (.tuple #[.agg (fuOf r p fa fc).v, .int .i64 0]) ∧ w'.ownsRow W1.heap.size 60 5 (.slice fa (runners r p).length fc) (runners r p).length (rcV (runners r p)) ∧ G W1 w') := by
      refine (HQ.out W1 g0).mono ?_
      rintro e w' ⟨hG, hh⟩
      rcases hh with ⟨a, _⟩ | ⟨_, fa, fc, a, b⟩
      · exact absurd hq a
      · exact ⟨fa, fc, a, b, hG⟩
    simp only [hv] at HQ1
    clear HQ HE
    have HPL := Lib.hid (hpl4 hq)
    clear hpl4
    rw [hW1] at m0 m1 m2 l0
    have hmm := @run_makeMap Tryz.prog
    gi_wp2_with (first | (gi_at_call 46; rw [← hW1]; refine (callsIn_wide.2 HQ1.out).mono ?_; rintro e w2 ⟨fa, fc, rfl, ho2, hG2⟩; clear m0 m1 m2 l0 HQ1) | (gi_at_call 60; refine (callsIn_wide.2 (cases_any _ _ _ _ _ _ _ _ _)).mono ?_; rintro e w5 ⟨rfl, rfl⟩))
    obtain ⟨K, hK⟩ : ∃ K, K = w2.heap.size := ⟨_, rfl⟩
    obtain ⟨Wa, hWa⟩ : ∃ Wa, Wa = w2.alloc (.cells #[.int .i64 (poolAt r p).stake, .int .i64 (poolAt r p).cut, .int .i64 (poolAt r p).kind, .slice (poolAt r p).ta (poolAt r p).table.length (poolAt r p).tc, .int .i64 (poolAt r p).quota, .bool (poolAt r p).first, .slice fa (runners r p).length fc, .slice r.ta r.protests.length r.tc] 85) := ⟨_, rfl⟩
    obtain ⟨Wc, hWc⟩ : ∃ Wc, Wc = Wa.alloc (.cells #[.int .i64 0] 3) := ⟨_, rfl⟩
    obtain ⟨Wd, hWd⟩ : ∃ Wd, Wd = Wc.alloc (.map #[] 0) := ⟨_, rfl⟩
    obtain ⟨We, hWe⟩ : ∃ We, We = Wd.alloc (.cells #[.map (some (w2.heap.size + 1 + 1))] 90) := ⟨_, rfl⟩
    obtain ⟨Wb, hWb⟩ : ∃ Wb, Wb = We.alloc (.cells #[.int .i64 (poolAt r p).stake, .int .i64 (poolAt r p).cut, .int .i64 (poolAt r p).kind, .slice (poolAt r p).ta (poolAt r p).table.length (poolAt r p).tc, .int .i64 (poolAt r p).quota, .bool (poolAt r p).first, .slice fa (runners r p).length fc, .slice r.ta r.protests.length r.tc] 85) := ⟨_, rfl⟩
    rw [← hWa, ← hWc, ← hWd, ← hWe, ← hWb]
    have sa : Wa.heap.size = K + 1 := by rw [hWa, World.size_alloc, hK]
    have sc : Wc.heap.size = K + 1 + 1 := by rw [hWc, World.size_alloc, sa]
    have sd : Wd.heap.size = K + 1 + 1 + 1 := by rw [hWd, World.size_alloc, sc]
    have se : We.heap.size = K + 1 + 1 + 1 + 1 := by rw [hWe, World.size_alloc, sd]
    have sb : Wb.heap.size = K + 1 + 1 + 1 + 1 + 1 := by rw [hWb, World.size_alloc, se]
    have bK : Blk Wb K 85 #[.int .i64 (poolAt r p).stake, .int .i64 (poolAt r p).cut, .int .i64 (poolAt r p).kind, .slice (poolAt r p).ta (poolAt r p).table.length (poolAt r p).tc, .int .i64 (poolAt r p).quota, .bool (poolAt r p).first, .slice fa (runners r p).length fc, .slice r.ta r.protests.length r.tc] := by rw [hWb, hWe, hWd, hWc, hWa, hK]; exact ((((Blk.new _ _ _).alloc _).alloc _).alloc _).alloc _
    have bA : Blk Wb (K + 1) 3 #[.int .i64 0] := by
      have := Blk.new Wa 3 #[.int .i64 0]
      rw [sa] at this
      rw [hWb, hWe, hWd, hWc]
      exact ((this.alloc _).alloc _).alloc _
    have bM : CnM Wb (K + 1 + 1) 0 [] := by
      have := CnM.made Wc
      rw [sc] at this
      rw [hWb, hWe, hWd]
      exact (this.keep ((G.rf _).a _)).keep ((G.rf _).a _)
    have bX : Blk Wb (K + 1 + 1 + 1) 90 #[.map (some (K + 1 + 1))] := by
      have := Blk.new Wd 90 #[.map (some (w2.heap.size + 1 + 1))]
      rw [sd, ← hK] at this
      rw [hWb, hWe, ← hK]
      exact this.alloc _
    have bKB : Blk Wb (K + 1 + 1 + 1 + 1) 85 #[.int .i64 (poolAt r p).stake, .int .i64 (poolAt r p).cut, .int .i64 (poolAt r p).kind, .slice (poolAt r p).ta (poolAt r p).table.length (poolAt r p).tc, .int .i64 (poolAt r p).quota, .bool (poolAt r p).first, .slice fa (runners r p).length fc, .slice r.ta r.protests.length r.tc] := by
      have := Blk.new We 85 #[.int .i64 (poolAt r p).stake, .int .i64 (poolAt r p).cut, .int .i64 (poolAt r p).kind, .slice (poolAt r p).ta (poolAt r p).table.length (poolAt r p).tc, .int .i64 (poolAt r p).quota, .bool (poolAt r p).first, .slice fa (runners r p).length fc, .slice r.ta r.protests.length r.tc]
      rw [se] at this
      rw [hWb]
      exact this
    have g2b : G w2 Wb := by rw [hWb, hWe, hWd, hWc, hWa]; exact (((((G.rf _).a _).a _).a _).a _).a _
    rw [← hK]
    have gwb : G w Wb := (g0.t hG2).t g2b
    have hgf := HC.out hq _ (g0.t hG2) _ fa fc ho2
    have hwK : w.heap.size < K := by rw [hK]; exact (b0.keep hG2).lt
    have HKS : Hid (K = w2.heap.size) := hK
    clear hWa hWc hWd hWe hWb sa sc sd se hmm ho2 hG2 b0 hW1 g0 hK HC
    have HS2 := Lib.hid (HS.out hq)
    obtain ⟨fu, hfu⟩ : ∃ fu, fu = fuOf r p fa fc := ⟨_, rfl⟩
    have hfv : fu.v = #[.int .i64 (poolAt r p).stake, .int .i64 (poolAt r p).cut, .int .i64 (poolAt r p).kind, .slice (poolAt r p).ta (poolAt r p).table.length (poolAt r p).tc, .int .i64 (poolAt r p).quota, .bool (poolAt r p).first, .slice fa (runners r p).length fc, .slice r.ta r.protests.length r.tc] := by rw [hfu]; exact hv fa fc
    have hfp : fu.pa = r.ta := by rw [hfu]; rfl
    have hfs : fu.ps = r.protests := by rw [hfu]; rfl
    have hFI : Hid (∀ sts S M, FiOk fu sts S M → FiOk (fuOf r p none 0) sts S M) := by rw [hfu]; exact fun sts S M h => ⟨h.1, h.2, h.3, h.4, h.5⟩
    rw [← hfu] at hgf
    clear hv HS hfu
    have hprB := hprot.below gwb
    have HOR := Lib.hid (fun (W : World) (hW : GF fu W) (st : List Int) (sa : Option Addr) (sc : Nat) (hi : IntsAt W sa st) (hl : st.length ≤ 1000) => hW.order st sa sc hi hl)
    rw [hfv] at HOR
    have h16 : 2 ^ r.protests.length ≤ 16 := by
      have := Nat.pow_le_pow_right (show 0 < 2 by decide) HPL.out
      omega
    have hseq := cases_seq2 3 (by omega) (K + 1 + 1 + 1 + 1) (fun i => i = K + 1 ∨ i = K + 1 + 1) fu Wb (by rw [hfv]; exact bKB) (by rw [hfp, hfs]; exact hprB) (by rw [hfs]; exact HPL.out) (by omega) (by
      rw [hfs, hfp]
      rcases hprot with h | ⟨b', o', h1, h2, _⟩
      · exact .inl h
      · refine .inr fun b2 o2 e2 => ?_
        rw [h1] at e2
        have e3 : b' = b2 := by injection e2 with e2; injection e2
        have := gwb.size
        omega)
    rw [hfs] at hseq
    have HGF := Lib.hid hgf
    clear hprot hfp hfs hgf HPL hprB
    refine rangeFunc_Y (F := Fence.wide) (α := Yd) (T := (· = 3)) (gf := 84) (lb := #[.pointer (some ⟨K + 1 + 1 + 1 + 1, 0, none⟩)]) rfl (by omega) rfl trivial (enters_of Tryz.func84 (by kernel_rfl) rfl) (ev := Yd.v) (Y := YdAt2 Wb.heap.size) (Kp := KP Wb.heap.size (fun i => i = K + 1 ∨ i = K + 1 + 1)) hseq (G.rf _) (fun h k => KP.t h k) (fun W l o o' hl _ _ => KP.put _ _ W l o o' hl) (fun x W l o o' ho hc h => YdAt2.put x W l o o' ho hc h)
      (FiI fu K Wb) (fun _ _ _ => False) ?hI (fun _ _ _ _ _ h _ _ => h) ?hIT (fun _ _ _ _ _ _ h _ => h) ?h0 10 ?assign ?body ?done ?stop
    case hI =>
      rintro st X Y row ⟨N, ps, h1, h2, h3, h4, h5⟩ hg hr
      exact FiI.mk (h1.grown hg (fun e => by have := (hr _ e.symm).1; omega)) (h2.grown hg (fun e => by have := (hr _ e.symm).1; omega)) h3 h4 (h5.grown hg (fun g e => .inr (hr g e).1))
    case hIT =>
      rintro B hB st X Y ⟨N, ps, h1, h2, h3, h4, h5⟩ hk
      refine FiI.mk (hk.blk h1 (.inl (by omega))) ?_ h3 h4 (h5.kt hk hB)
      obtain ⟨D, hD1, hD2⟩ := h2
      refine ⟨D, ?_, hD2⟩
      obtain ⟨es, clock, hb, F, hs, e⟩ := hD1
      exact ⟨es, clock, hk.block _ _ hb (.inl (by omega)), F, hs, e⟩
    case h0 => exact FiI.mk (N := 0) (ps := []) bA bM (CtS.start _ _) (by simp) (Fr.rf _ _)
    case assign =>
      intro l x W KK hK
      unfold Yd.v at hK ⊢
      gi_wp2
      exact hK
    case stop =>
      rintro D c pre W _ _ h _
      exact h.elim
    case body =>
      rintro l pre x W ⟨N, ps, h1, h2, h3, h4, h5⟩ hyx hN
      have bK1 := h5.blk bK (by omega)
      have bX1 := h5.blk bX (by omega)
      have gW : G w W := ((G.fr (R := fun _ => False) gwb).t2 h5 (fun i hi e => by rcases e with e | e <;> omega)).toG (fun _ _ h => h)
      unfold Yd.v
      obtain ⟨xa, xc, xst⟩ := x
      have hyi : IntsAt W xa xst := hyx.1.1
      have hx4 : xst.length ≤ 4 := hyx.1.2
      have hyb := hyx.2
      have HSB := Lib.hid sb
      have hK5 : K + 1 + 1 < Wb.heap.size := by omega
      clear hyx hseq HS2 bKB bA bM sb
      dsimp only at *
      have hwn : IntKind.i64.wrap ((pre.length : Int) + 1) = (pre.length : Int) + 1 := IntWalk.i64_in _ (by omega)
      have hpl16 : pre.length ≤ 100 := by omega
      have frV : Fr (fun i => i = K + 1 ∨ i = K + 1 + 1) W (W.setCell ⟨K + 1, 0, none⟩ (.int .i64 ((pre.length : Int) + 1))) := (Fr.rf _ W).s (p := ⟨K + 1, 0, none⟩) (.inl (.inl rfl)) _
      have bAV := h1.set_ 0 (.int .i64 ((pre.length : Int) + 1))
      simp only [List.setIfInBounds_toArray, List.set_cons_zero] at bAV
      have gV : G w2 (W.setCell ⟨K + 1, 0, none⟩ (.int .i64 ((pre.length : Int) + 1))) := ((G.fr (R := fun _ => False) g2b).t2 (h5.t frV) (fun i hi e => by have := HKS.out; rcases e with e | e <;> omega)).toG (fun _ _ h => h)
      have hyiV : IntsAt (W.setCell ⟨K + 1, 0, none⟩ (.int .i64 ((pre.length : Int) + 1))) xa xst := by
        rcases hyi with hx | ⟨b, off, e1, e2, e3⟩
        · exact .inl hx
        · refine .inr ⟨b, off, e1, Nat.lt_of_lt_of_le e2 frV.size, fun q hq => ?_⟩
          have e4 := e3 q hq
          have hbk := hyb b off e1
          have e5 := (frV.block b e2 (fun e => by rcases e with e | e <;> omega))
          simp only [World.cell?] at e4 ⊢
          rw [e5]
          exact e4
      have HGV := Lib.hid (HGF.out.keep gV)
      have h2V := h2.fr (R := fun i => i = K + 1) ((Fr.rf (fun i => i = K + 1) W).s (p := ⟨K + 1, 0, none⟩) (.inl rfl) (.int .i64 ((pre.length : Int) + 1))) (by omega)
      have HFRV := Lib.hid (h5.t frV)
      have HFW := Lib.hid frV
      have H2V := Lib.hid h2V
      have HBA := Lib.hid bAV
      have hszW : Wb.heap.size ≤ W.heap.size := h5.size
      have c0 := h1.cell 0
      have z0 := h1.frozen 0
      have lA := h1.lt
      have m0 := bK1.cell 0
      have m1 := bK1.cell 1
      have m2 := bK1.cell 2
      have m3 := bK1.cell 3
      have m4 := bK1.cell 4
      have m5 := bK1.cell 5
      have m6 := bK1.cell 6
      have m7 := bK1.cell 7
      have l0 := bK1.lt
      have HYI := Lib.hid hyiV
      have HOR2 := Lib.hid (HOR.out _ HGV.out xst xa xc HYI.out (by omega))
      have HH3 := Lib.hid h3
      clear h1 h2 h2V h3 h5 hyiV hyi bAV frV bK1 HGV HYI
      obtain ⟨GL, hGL⟩ : ∃ GL, GL = orderL fu xst := ⟨_, rfl⟩
      have hff := firstL_facts (st := xst) HGF.out.uq
      have hfl : firstL fu xst = GL.getD 0 [] := by rw [hGL]; rfl
      rw [← hGL] at HOR2 hff
      rw [hfl] at hff
      have HFL := Lib.hid hfl
      have HGL := Lib.hid hGL
      clear hGL
      have h12 : fu.rs.length ≤ 12 := HGF.out.B.many
      clear hfl
      by_cases hgl : GL.length = 0
      · have hgi : ¬ (0 : Int) < (GL.length : Int) := by omega
        gi_wp2_with (gi_at_call 58; refine (CallsIn.inRound l (callsIn_wide.2 HOR2.out)).mono ?_; rintro e w7 ⟨v7, cs7, Bl7, rfl, ho7, hG7⟩; clear c0 z0 lA m0 m1 m2 m3 m4 m5 m6 m7 l0; obtain ⟨va, vc, rfl, hgrp⟩ := grp_read ho7)
        have hf0 : GL.getD 0 [] = [] := by rw [List.length_eq_zero_iff.1 hgl]; rfl
        have frZ := HFRV.out.t ((G.fr (R := fun i => i = K + 1 ∨ i = K + 1 + 1) hG7).t (Fr.rf _ _))
        have frW := HFW.out.t ((G.fr (R := fun i => i = K + 1 ∨ i = K + 1 + 1) hG7).t (Fr.rf _ _))
        refine ⟨⟨frW.size, fun k o hk1 hk2 _ => (frW.block k (Array.getElem?_eq_some_iff.1 hk2).1 (fun e => by have := HSB.out; rcases e with e | e <;> omega)).trans hk2⟩, frW.kp _ hszW, FiI.mk (N := N) (ps := ps) ?_ (H2V.out.keep hG7) ?_ ?_ frZ⟩
        · rw [List.length_append, List.length_singleton, show ((pre.length + 1 : Nat) : Int) = (pre.length : Int) + 1 by omega]
          exact (HBA.out.keep hG7)
        · rw [List.map_append]
          exact (CtS.next (st := xst) (by rw [HFL.out, hf0]; exact HH3.out.turn []) [])
        · rw [List.length_append, List.length_singleton]
          omega
      · have hgi : (0 : Int) < (GL.length : Int) := by omega
        have HBAD := Lib.hid bX1
        have HMB : Hid (∀ b ∈ GL.getD 0 [], 0 ≤ b ∧ b ≤ 9999) := fun b hb => by
          obtain ⟨x, hx, e⟩ := hff.2.1 b hb
          exact e ▸ HGF.out.bd x hx
        obtain ⟨gl, hglx⟩ : ∃ gl, gl = GL.getD 0 [] := ⟨_, rfl⟩
        have HGX := Lib.hid hglx
        rw [← hglx] at hff HFL HMB
        clear hglx
        gi_wp2_with (gi_at_call 58; refine (CallsIn.inRound l (callsIn_wide.2 HOR2.out)).mono ?_; rintro e w7 ⟨v7, cs7, Bl7, rfl, ho7, hG7⟩; clear c0 z0 lA m0 m1 m2 m3 m4 m5 m6 m7 l0; obtain ⟨va, vc, rfl, hgrp⟩ := grp_read ho7; obtain ⟨go, gia, gc, hge, hgo, hcello, hgin⟩ := hgrp 0 (by omega); subst hge; rw [← HGX.out] at hcello hgin; have n0 := hcello; have ln := hgo)
        clear n0 ln hcello hgrp ho7
        have hCn7 := H2V.out.keep hG7
        have hBX7 := (HFW.out.blk bX1 (by omega)).keep hG7
        have hg12 : gl.length ≤ 12 := by have := hff.2.2.2; omega
        have HCT7 : Hid (CtS fu (pre.map Yd.st) gl 0 ps) := HH3.out.turn gl
        have HGN := Lib.hid hff
        clear hff hgl
        gi_loopw [41] (fun i wr => ∃ (k N' : Nat) (ps' : List Pu), k ≤ gl.length ∧ i = .int .i64 k ∧ CnM wr (K + 1 + 1) N' ps' ∧ Hid (CtS fu (pre.map Yd.st) gl k ps') ∧ N' ≤ 12 * pre.length + k ∧ Fr (fun i => i = K + 1 + 1) w7 wr) (fun i _ => gl.length - (intOf i).toNat)
        case atStart => exact ⟨0, N, ps, Nat.zero_le _, rfl, hCn7, HCT7.out, h4, Fr.rf _ _⟩
        case round =>
          obtain ⟨k, N', ps', hk, rfl, hCn, HCT, hN', hF8⟩ := hrel
          obtain ⟨w8, rfl⟩ : ∃ w8, w8 = wr := ⟨_, rfl⟩
          by_cases hlt : k < gl.length
          · have hki : (k : Int) < gl.length := by omega
            rcases hgin with hx | ⟨gb, goff, hge2, hgb, hcb⟩
            · rw [hx] at hlt; simp at hlt
            subst hge2
            have hcb7 := hcb k hlt
            have hgm : gb ≠ K + 1 + 1 := fun e => by
              obtain ⟨es, c, hm⟩ := hCn7.isMap
              rw [e] at hcb7
              simp [World.cell?, hm] at hcb7
            have q0 : w8.cell? ⟨gb, goff + k, none⟩ = some (.int .i64 (gl.getD k 0)) := by
              have e5 := hF8.block gb hgb hgm
              simp only [World.cell?] at hcb7 ⊢
              rw [e5]
              exact hcb7
            have lq : gb < w8.heap.size := Nat.lt_of_lt_of_le hgb hF8.size
            have bX8 := hF8.blk hBX7 (by omega)
            have x0 := bX8.cell 0
            have lx := bX8.lt
            have hstep := HCT.out.step hlt HGN.out.1 HGN.out.2.1 (by rw [List.length_map]; omega)
            have hbb := HMB.out (gl.getD k 0) (by
              rw [List.getD_eq_getElem?_getD, List.getElem?_eq_getElem hlt]
              exact List.getElem_mem hlt)
            obtain ⟨b, hb⟩ : ∃ b, b = gl.getD k 0 := ⟨_, rfl⟩
            rw [← hb] at q0 hbb hstep
            have hcnt := HCT.out.cnt b
            have hcb2 := cntI_bd fu (pre.map Yd.st) b
            rw [List.length_map] at hcb2
            have hc2 : 0 ≤ (atP ps' b).staked ∧ (atP ps' b).staked ≤ 200 := by
              rw [hcnt]
              split <;> omega
            have hlk := hCn.at (x := b) (by omega) (by go_simp)
            obtain ⟨c, hc⟩ : ∃ c, c = (atP ps' b).staked := ⟨_, rfl⟩
            rw [← hc] at hlk hc2 hstep
            have hwc : IntKind.i64.wrap (c + 1) = c + 1 := IntWalk.i64_in _ (by omega)
            obtain ⟨w9, hup, hCn9, hg9⟩ := hCn.store ⟨b, c + 1, 0⟩ (by dsimp only; omega) (by dsimp only; omega) (by unfold maxLen; omega)
            dsimp only at hup
            have HST := Lib.hid hstep
            have HF9 : Hid (Fr (fun i => i = K + 1 + 1) w7 w9) := hF8.grown hg9 (fun g e => .inl (by injection e with e; exact e.symm))
            clear hcb7 hcb hgm hcnt hcb2 hb hc hstep hgi hBX7 hCn7 bX8 hG7 hF8 hCn HCT hg9
            gi_wp2_with fail
            go_roundw
            case rel => exact ⟨k + 1, N' + 1, _, by omega, by go_num, hCn9, HST.out, by omega, HF9.out⟩
            case measure => simp [intOf] <;> omega
          · obtain rfl : k = gl.length := by omega
            have hki : ¬ ((gl.length : Nat) : Int) < gl.length := by omega
            gi_wp2_with fail
            have frX : Fr (fun i => i = K + 1 ∨ i = K + 1 + 1) w7 w8 := ⟨hF8.os, hF8.tape, hF8.output, hF8.size, fun i hi hn => hF8.block i hi (fun e => hn (.inr e))⟩
            have frZ := HFRV.out.t ((G.fr (R := fun i => i = K + 1 ∨ i = K + 1 + 1) hG7).t frX)
            have frW := HFW.out.t ((G.fr (R := fun i => i = K + 1 ∨ i = K + 1 + 1) hG7).t frX)
            refine ⟨⟨frW.size, fun k o hk1 hk2 _ => (frW.block k (Array.getElem?_eq_some_iff.1 hk2).1 (fun e => by have := HSB.out; rcases e with e | e <;> omega)).trans hk2⟩, frW.kp _ hszW, FiI.mk (N := N') (ps := ps') ?_ hCn ?_ ?_ frZ⟩
            · rw [List.length_append, List.length_singleton, show ((pre.length + 1 : Nat) : Int) = (pre.length : Int) + 1 by omega]
              exact (hF8.blk (HBA.out.keep hG7) (by omega))
            · rw [List.map_append]
              exact (CtS.next (st := xst) (by rw [HFL.out]; exact HCT.out) [])
            · rw [List.length_append, List.length_singleton]
              omega
    case done =>
      rintro D xs W hD hS ⟨N, ps, h1, h2, h3, h4, h5⟩ hDef
      rw [hS] at h3
      have hxl : (caseL r.protests).length = xs.length := by rw [← hS, List.length_map]
      have hfin := h3.fin
      rw [hxl] at hfin
      have hfin2 := hFI.out _ _ _ hfin
      have hpl := h3.len
      have h12 : fu.rs.length ≤ 12 := HGF.out.B.many
      have hbx := h5.blk bX (by omega)
      have gwD : G w W := ((G.fr (R := fun _ => False) gwb).t2 h5 (fun i hi e => by rcases e with e | e <;> omega)).toG (fun _ _ h => h)
      have hso := ksorted_any W.heap.size (K + 1 + 1) N ps h3.uniq (by omega) (W.alloc (.cells #[.map (some (K + 1 + 1))] 90)) (Blk.new _ _ _) (h2.keep ((G.rf _).a _))
      have hbd : ∀ b ∈ sortL (ps.map Pu.owner), 0 ≤ b ∧ b ≤ 9999 := fun b hb => by
        obtain ⟨q, hq2, rfl⟩ := List.mem_map.1 ((sortL_perm _).mem_iff.1 hb)
        obtain ⟨x, hx, e⟩ := h3.own q hq2
        exact e ▸ HGF.out.bd x hx
      obtain ⟨ks, hks⟩ : ∃ ks, ks = sortL (ps.map Pu.owner) := ⟨_, rfl⟩
      have hkl : ks.length = ps.length := by rw [hks, sortL_len, List.length_map]
      rw [← hks] at hfin2 hbd hso
      rw [← hkl] at hso
      obtain ⟨pq, hpq⟩ : ∃ pq : Int → Bool, pq = ctP ps (xs.length : Nat) := ⟨_, rfl⟩
      rw [← hpq] at hfin2
      have HPQ : Hid (∀ x, pq x = ((atP ps x).staked == ((xs.length : Nat) : Int))) := fun x => by rw [hpq]; rfl
      have HSO := Lib.hid hso
      have HBD := Lib.hid hbd
      have HEND : Hid (∀ (v1 v2 : Value) (W' : World), G w W' → W'.ownsRow w.heap.size 3 1 v1 (ks.filter pq).length (iv (ks.filter pq)) → W'.ownsRow w.heap.size 3 1 v2 (ks.filter fun b => !pq b).length (iv (ks.filter fun b => !pq b)) → PP (.returned (.tuple #[v1, v2, .int .i64 0])) W') := fun v1 v2 W' a b c => HS2.out v1 v2 _ _ W' a b c hfin2
      have HDF := Lib.hid hDef
      have HGW := Lib.hid gwD
      have HH1 := Lib.hid h1
      have HH2 := Lib.hid h2
      have HBX := Lib.hid hbx
      have HBB := Lib.hid bX
      have HWW : Hid (w.heap.size ≤ W.heap.size) := gwD.size
      have HDD := Lib.hid hD
      have HSB := Lib.hid sb
      have hk12 : ks.length ≤ 12 := by omega
      have hx0 : (0 : Int) ≤ ((xs.length : Nat) : Int) := by omega
      obtain ⟨n, hn⟩ : ∃ n : Int, n = ((xs.length : Nat) : Int) := ⟨_, rfl⟩
      rw [← hn] at HPQ HH1
      have x0 := hbx.cell 0
      have lx := hbx.lt
      clear hso hbd hks hpq hfin hfin2 h1 h2 h3 h4 h5 hbx gwD hDef bX bK bA bM bKB hseq HS2 hFI hS hxl hkl hpl hx0 hn HOR HGF sb
      gi_wp2_with (first | (gi_at_call 62; refine (callsIn_wide.2 (keys_any _ _)).mono ?_; rintro e w3 ⟨rfl, rfl⟩) | (gi_at_call 61; refine (callsIn_wide.2 HSO.out).mono ?_; rintro e w4 ⟨vk, rfl, hok, hG4⟩; obtain ⟨ka, kc, rfl, hki⟩ := own_ints hok))
      clear x0 lx HSO
      have gW4 : G W w4 := ((G.rf W).a _).t hG4
      have HKI := Lib.hid hki
      have HB1 := Lib.hid (HH1.out.keep gW4)
      have HB2 := Lib.hid (HBX.out.keep gW4)
      have HM2 := Lib.hid (HH2.out.keep gW4)
      have HG4 := Lib.hid gW4
      clear hki hok hG4 gW4
      gi_loopw [4, 5, 54] (fun v1 v2 i wr => ∃ k : Nat, k ≤ ks.length ∧ i = .int .i64 k ∧ Hid (wr.ownsRow w4.heap.size 3 1 v1 ((ks.take k).filter pq).length (iv ((ks.take k).filter pq))) ∧ Hid (wr.ownsRow w4.heap.size 3 1 v2 ((ks.take k).filter fun b => !pq b).length (iv ((ks.take k).filter fun b => !pq b))) ∧ Hid (apart v1 v2) ∧ Hid (G w4 wr)) (fun _ _ i _ => ks.length - (intOf i).toNat)
      case atStart => exact ⟨0, Nat.zero_le _, rfl, World.ownsRow_nil _ _ _ _, World.ownsRow_nil _ _ _ _, (fun g e => by cases e), G.rf _⟩
      case round =>
        obtain ⟨k, hk, rfl, HO1, HO2, HAP, HGR⟩ := hrel
        obtain ⟨wi, rfl⟩ : ∃ wi, wi = wr := ⟨_, rfl⟩
        obtain ⟨va1, vc1, rfl⟩ := own_slice HO1.out
        obtain ⟨va2, vc2, rfl⟩ := own_slice HO2.out
        by_cases hlt : k < ks.length
        · have hki : (k : Int) < ks.length := by omega
          rcases HKI.out.below HGR.out with h | ⟨gb, off, rfl, lgb, hcell⟩
          · rw [h] at hlt; simp at hlt
          have q0 := hcell k hlt
          have hb1 := HB1.out.keep HGR.out
          have hb2 := HB2.out.keep HGR.out
          have c0 := hb1.cell 0
          have lc := hb1.lt
          have d0 := hb2.cell 0
          have ld := hb2.lt
          have hbb := HBD.out (ks.getD k 0) (by
            rw [List.getD_eq_getElem?_getD, List.getElem?_eq_getElem hlt]
            exact List.getElem_mem hlt)
          have hf1 := filt_take pq hlt
          have hf2 := filt_take (fun b => !pq b) hlt
          have hp := HPQ.out (ks.getD k 0)
          have hl1 := List.length_filter_le pq (ks.take k)
          have hl2 := List.length_filter_le (fun b => !pq b) (ks.take k)
          rw [List.length_take] at hl1 hl2
          obtain ⟨x, hx⟩ : ∃ x, x = ks.getD k 0 := ⟨_, rfl⟩
          rw [← hx] at q0 hbb hf1 hf2 hp
          have hlk := (HM2.out.keep HGR.out).at (x := x) (by omega) (by go_simp)
          obtain ⟨c, hc⟩ : ∃ c, c = (atP ps x).staked := ⟨_, rfl⟩
          rw [← hc] at hlk hp
          try dsimp only at hf2
          obtain ⟨s1, hs1⟩ : ∃ s1, s1 = (ks.take k).filter pq := ⟨_, rfl⟩
          obtain ⟨s2, hs2⟩ : ∃ s2, s2 = (ks.take k).filter fun b => !pq b := ⟨_, rfl⟩
          rw [← hs1] at HO1 HAP hf1 hl1 ⊢
          rw [← hs2] at HO2 HAP hf2 hl2 ⊢
          obtain ⟨t1, ht1⟩ : ∃ t1, t1 = (ks.take (k + 1)).filter pq := ⟨_, rfl⟩
          obtain ⟨t2, ht2⟩ : ∃ t2, t2 = (ks.take (k + 1)).filter fun b => !pq b := ⟨_, rfl⟩
          have hg1 : s1.length ≤ 12 := by omega
          have hg2 : s2.length ≤ 12 := by omega
          obtain ⟨i0, hi0, hz0, hz1, hz2⟩ := info_parts info3
          have HT1 := Lib.hid ht1
          have HT2 := Lib.hid ht2
          have hsz : w4.heap.size ≤ wi.heap.size := HGR.out.size
          cases hpx : pq x
          · rw [hpx] at hf1 hf2 hp
            have HE1 : Hid (t1 = s1) := by rw [HT1.out, hf1]; rfl
            have HE2 : Hid (t2 = s2 ++ [x]) := by rw [HT2.out, hf2]; rfl
            have heb : (c == n) = false := hp.symm
            have HOA := Lib.hid (own_G HO1.out ((G.rf wi).a (.cells #[.int .i64 x] 3)))
            have HOB := Lib.hid (own_G HO2.out ((G.rf wi).a (.cells #[.int .i64 x] 3)))
            clear hcell hb1 hb2 hf1 hf2 hp hl1 hl2 hx hc hs1 hs2 ht1 ht2 hpx
            gi_wp2_with (gi_at_builtin; refine wpListIn_append_own_at _ rfl _ _ 24 rfl w4.heap.size 3 i0 (.int .i64 0) 1 8 Tryz.underlying24 hi0 hz0 hz1 hz2 rfl (by decide) _ s2.length (iv s2) rfl HOB.out ⟨wi.heap.size, 0, none⟩ 1 1 [.int .i64 x] rfl rfl (cell_one_new _ _ _) (by simp [Value.oneCell']) (by unfold maxLen; omega) (by omega) (by simp only [World.alloc, Array.size_push]; omega) ?_; intro v9 w9 hown9 hg9 hnil9 hat9; go_frame)
            have hWG := within_grow (HGR.out.a _) HOB.out HOA.out (fun g a b => HAP.out g b a) hg9 rfl hat9
            go_roundw
            case rel => exact ⟨k + 1, by omega, by go_num, by rw [← HT1.out, HE1.out]; exact hWG.1, by rw [← HT2.out, HE2.out, List.length_append, iv_snoc]; exact hown9, (fun g a b => hWG.2.1 g b a), hWG.2.2⟩
            case measure => simp [intOf] <;> omega
          · rw [hpx] at hf1 hf2 hp
            have HE1 : Hid (t1 = s1 ++ [x]) := by rw [HT1.out, hf1]; rfl
            have HE2 : Hid (t2 = s2) := by rw [HT2.out, hf2]; rfl
            have heb : (c == n) = true := hp.symm
            have HOA := Lib.hid (own_G HO1.out ((G.rf wi).a (.cells #[.int .i64 x] 3)))
            have HOB := Lib.hid (own_G HO2.out ((G.rf wi).a (.cells #[.int .i64 x] 3)))
            clear hcell hb1 hb2 hf1 hf2 hp hl1 hl2 hx hc hs1 hs2 ht1 ht2 hpx
            gi_wp2_with (gi_at_builtin; refine wpListIn_append_own_at _ rfl _ _ 24 rfl w4.heap.size 3 i0 (.int .i64 0) 1 8 Tryz.underlying24 hi0 hz0 hz1 hz2 rfl (by decide) _ s1.length (iv s1) rfl HOA.out ⟨wi.heap.size, 0, none⟩ 1 1 [.int .i64 x] rfl rfl (cell_one_new _ _ _) (by simp [Value.oneCell']) (by unfold maxLen; omega) (by omega) (by simp only [World.alloc, Array.size_push]; omega) ?_; intro v9 w9 hown9 hg9 hnil9 hat9; go_frame)
            have hWG := within_grow (HGR.out.a _) HOA.out HOB.out HAP.out hg9 rfl hat9
            go_roundw
            case rel => exact ⟨k + 1, by omega, by go_num, by rw [← HT1.out, HE1.out, List.length_append, iv_snoc]; exact hown9, by rw [← HT2.out, HE2.out]; exact hWG.1, hWG.2.1, hWG.2.2⟩
            case measure => simp [intOf] <;> omega
        · obtain rfl : k = ks.length := by omega
          have hki : ¬ ((ks.length : Nat) : Int) < ks.length := by omega
          rw [List.take_length] at HO1 HO2 HAP ⊢
          gi_wp2_with fail
          have gWi : G W wi := HG4.out.t HGR.out
          have hDl : D < W.heap.size := (Array.getElem?_eq_some_iff.1 HDF.out).1
          have hDef2 : wi.heap[D]? = some (.deferred (some [])) := (gWi.block D hDl).trans HDF.out
          refine ⟨by simp, .inl ⟨_, _, rfl, run_takeDeferred hDef2, ?_⟩⟩
          have hf : Fr (fun i => i = D) wi (wi.putObj D (.deferred none)) := ⟨rfl, rfl, rfl, by simp [World.putObj], fun i _ hn => World.putObj_heap_other hn⟩
          have h4s : W.heap.size ≤ w4.heap.size := HG4.out.size
          have gE2 : G w (wi.putObj D (.deferred none)) := ((G.fr (R := fun _ => False) (HGW.out.t gWi)).t2 hf (fun i hi e => by have := HDD.out; have := HSB.out; omega)).toG (fun _ _ h => h)
          refine ⟨_, res29 _ _ _ _ _ rfl rfl rfl, ?_⟩
          exact HEND.out _ _ _ gE2 (own_weaken (own_Fr HO1.out hf (fun g hg e => by have := own_base HO1.out hg; omega)) (by have := HWW.out; omega)) (own_weaken (own_Fr HO2.out hf (fun g hg e => by have := own_base HO2.out hg; omega)) (by have := HWW.out; omega))
  · have HQ0 : Hid (Calls Tryz.prog 46 #[.agg #[.slice r.ra r.racers.length r.rc, .slice r.pa r.pools.length r.pc, .slice r.ta r.protests.length r.tc], .int .i64 p, .slice none 0 0] W1 fun e w' => e = .returned (.tuple #[.agg #[.int .i64 0, .int .i64 0, .int .i64 0, .slice none 0 0, .int .i64 0, .bool false, .slice none 0 0, .slice none 0 0], .int .i64 QE]) ∧ G W1 w') := by
      refine (HQ.out W1 g0).mono ?_
      rintro e w' ⟨hG, hh⟩
      rcases hh with ⟨_, a⟩ | ⟨a, _⟩
      · exact ⟨a, hG⟩
      · exact absurd a hq
    have e0 : (QE == 0) = false := by simpa using hq
    have HE2 := Lib.hid (HE.out hq)
    clear HQ HE HC HS hv
    rw [hW1] at m0 m1 m2 l0
    gi_wp2_with (gi_at_call 46; rw [← hW1]; refine (callsIn_wide.2 HQ0.out).mono ?_; rintro e w2 ⟨rfl, hG2⟩; clear m0 m1 m2 l0 HQ0)
    refine ⟨_, res29 _ _ _ _ _ rfl rfl rfl, ?_⟩
    exact HE2.out _ ((g0.t hG2).a _)
end Go.Proofs.YtnkmcoljijmgpaaGreat

set_option linter.unusedSimpArgs false
set_option linter.unusedVariables false
namespace Go.Proofs.YtnkmcoljijmgpaaGreat
open Go.RowKit Go.Shelf Go.Sort Go.Maps
attribute [local go_sem] Oper.semAt_some
theorem skip0 {first : Bool} {x : Rc} : skipB first [] x = false ↔ x.day ≠ 0 ∧ (first = true → x.day = 1) := by
  have e : inL [] x.bird = false := rfl
  unfold skipB
  rw [e]
  by_cases h0 : x.day = 0 <;> by_cases h1 : x.day = 1 <;> cases first <;> simp [h0, h1]
theorem grp_pre (l : List Rc) (y : Rc) : ∀ k, k ≤ l.length → grpTo (l ++ [y]) k = grpTo l k
  | 0, _ => rfl
  | k + 1, hk => by
    have ih := grp_pre l y k (by omega)
    have a : ∀ i, i < l.length → (l ++ [y]).getD i default = l.getD i default := fun i hi => by
      rw [List.getD_eq_getElem?_getD, List.getD_eq_getElem?_getD, List.getElem?_append_left hi]
    have hs : sameB (l ++ [y]) k = sameB l k := by
      unfold sameB befD
      rw [a k (by omega), a (k - 1) (by omega)]
    unfold grpTo
    rw [hs, ih, a k (by omega)]
theorem grp_snoc {l : List Rc} {y : Rc} (hs : sameB (l ++ [y]) l.length = false) : grpTo (l ++ [y]) (l ++ [y]).length = grpTo l l.length ++ [[y.bird]] := by
  rw [List.length_append, List.length_singleton]
  have e : (l ++ [y]).getD l.length default = y := by
    rw [List.getD_eq_getElem?_getD, List.getElem?_append_right (Nat.le_refl _), Nat.sub_self]
    rfl
  conv => lhs; unfold grpTo
  rw [if_neg (by rw [hs]; decide), addLast_app, grp_pre l y _ (Nat.le_refl _), e]
  rfl
theorem wonAt_snoc {ps : List (Int × Int)} {b c x : Int} (h : x ≠ b) : wonAt (ps ++ [(b, c)]) x = wonAt ps x := by
  unfold wonAt
  rw [List.find?_append]
  have e : ([(b, c)] : List (Int × Int)).find? (fun p => p.1 == x) = none := by
    rw [List.find?_eq_none]
    intro p hp
    rw [List.mem_singleton.1 hp]
    simpa using fun e => h e.symm
  rw [e]
  simp
end Go.Proofs.YtnkmcoljijmgpaaGreat

set_option linter.unusedSimpArgs false
set_option linter.unusedVariables false
namespace Go.Proofs.YtnkmcoljijmgpaaGreat
open Go.RowKit Go.Shelf Go.Sort Go.Maps
attribute [local go_sem] Oper.semAt_some
/-- what holds of the purses: an owner once, all owners of l, as many as at first -/
structure PuF (l : List Rc) (n : Nat) (ps : List Pu) : Prop where
  uniq : UniqP ps
  all : ∀ x ∈ l, (ps.any fun p => p.owner == x.owner) = true
  len : ps.length ≤ n
end Go.Proofs.YtnkmcoljijmgpaaGreat

set_option linter.unusedSimpArgs false
set_option linter.unusedVariables false
namespace Go.Proofs.YtnkmcoljijmgpaaGreat
open Go.RowKit Go.Shelf Go.Sort Go.Maps
attribute [local go_sem] Oper.semAt_some
theorem racerP {np : Nat} {x y : Rc} (h : rcP x = rcP y) : racerB np x = racerB np y := by
  obtain ⟨x0, x1, x2, x3, x4, x5, x6⟩ := x
  obtain ⟨y0, y1, y2, y3, y4, y5, y6⟩ := y
  unfold rcP at h
  simp only [Prod.mk.injEq] at h
  obtain ⟨rfl, rfl, rfl, rfl, rfl⟩ := h
  rfl
theorem uniqP_rc {l l' : List Rc} (h : l.map rcP = l'.map rcP) (hu : Uniq l) : Uniq l' := by
  have a : ∀ l : List Rc, Uniq l ↔ (l.map rcP).Pairwise fun q q' => q.1 ≠ q'.1 := fun l => by
    rw [List.pairwise_map]
    rfl
  rw [a, ← h, ← a]
  exact hu
theorem runnersP {l l' : List Rc} (h : l.map rcP = l'.map rcP) (p : Int) : (srt (l.filter fun x => inL x.pools p)).map rcP = (srt (l'.filter fun x => inL x.pools p)).map rcP := by
  have a : ∀ l : List Rc, (srt (l.filter fun x => inL x.pools p)).map rcP = ((l.map rcP).filter fun q => inL q.2.2.2.2 p).mergeSort fun a b => decide (a.1 ≤ b.1) := fun l => by
    unfold srt
    rw [List.map_mergeSort (f := rcP) (r := fun x y : Rc => decide (x.bird ≤ y.bird)) (s := fun a b : Int × Int × Int × Int × List Int => decide (a.1 ≤ b.1)) (fun a _ b _ => rfl), List.filter_map]
    rfl
  rw [a, a, h]
theorem mem_P {l l' : List Rc} (h : l.map rcP = l'.map rcP) {x : Rc} (hx : x ∈ l) : ∃ y ∈ l', rcP y = rcP x := by
  have hm : rcP x ∈ l'.map rcP := by
    rw [← h]
    exact List.mem_map.2 ⟨x, hx, rfl⟩
  exact List.mem_map.1 hm
/-- a race that says the same, of other blocks -/
theorem req_copy {r o : Ra} (hr : raceB r = true) (her : o.racers.map rcP = r.racers.map rcP) (hps : o.pools.map poP = r.pools.map poP) (hpr : o.protests = r.protests) : REq r o ∧ raceB o = true := by
  obtain ⟨⟨h1, h2, h3⟩, h4, ⟨h5, h6⟩, h7, h8⟩ := (race_iff r).1 hr
  have hl : o.pools.length = r.pools.length := by
    have e := congrArg List.length hps
    simpa using e
  have hlr : o.racers.length = r.racers.length := by
    have e := congrArg List.length her
    simpa using e
  have hq : ∀ l : List Rc, l.map rcQ = (l.map rcP).map (fun q => (q.1, q.2.1, q.2.2.1, q.2.2.2.1)) := fun l => by
    rw [List.map_map]
    rfl
  refine ⟨⟨hps, hpr, fun p => ?_, fun x => ?_⟩, (race_iff o).2 ⟨⟨by rw [hl]; exact h1, by rw [hpr]; exact h2, by rw [hpr]; exact h3⟩, fun x hx => ?_, ⟨by rw [hlr]; exact h5, uniqP_rc her.symm h6⟩, fun x hx => ?_, fun k hk => ?_⟩⟩
  · rw [hq, hq]
    unfold runners
    rw [runnersP her]
  · have a : ∀ {l l' : List Rc}, l.map rcP = l'.map rcP → (l.any fun y => y.owner == x) = true → (l'.any fun y => y.owner == x) = true := fun {l l'} h hh => by
      obtain ⟨y, hy, e⟩ := List.any_eq_true.1 hh
      obtain ⟨z, hz, e2⟩ := mem_P h hy
      refine List.any_eq_true.2 ⟨z, hz, ?_⟩
      have : z.owner = y.owner := congrArg (fun q => q.2.1) e2
      rw [this]
      exact e
    rw [Bool.eq_iff_iff]
    exact ⟨a her, a her.symm⟩
  · have hm : poP x ∈ r.pools.map poP := by
      rw [← hps]
      exact List.mem_map.2 ⟨x, hx, rfl⟩
    obtain ⟨y, hy, e⟩ := List.mem_map.1 hm
    rw [← poolP e]
    exact h4 y hy
  · obtain ⟨y, hy, e⟩ := mem_P her hx
    rw [hl, ← racerP e]
    exact h7 y hy
  · rw [hpr] at hk ⊢
    obtain ⟨y, hy, e⟩ := hasB_mem.1 (h8 k hk)
    obtain ⟨z, hz, e2⟩ := mem_P her.symm hy
    have : z.bird = y.bird := congrArg Prod.fst e2
    exact hasB_mem.2 ⟨z, hz, by rw [this, e]⟩
/-- a store into one cell of a row of one's own -/
theorem row_put1 {W : World} {B c i j g : Nat} {a : Option Addr} {L : List Rc} {v : Value} {y : Rc} (h : W.ownsRow B 60 5 (.slice a L.length c) L.length (rcV L)) (ha : a = some ⟨g, 0, none⟩) (hi : i < L.length) (hj : j < 5) (hy : rcE y = (rcE (L.getD i default)).set j v) :
    (W.setCell ⟨g, i * 5 + j, none⟩ v).ownsRow B 60 5 (.slice a L.length c) L.length (rcV (L.set i y)) := by
  rcases h.2 with ⟨_, h0⟩ | ⟨g', cap, cur, he, hb, hg, h1, h2, h3, h4⟩
  · omega
  · rw [ha] at he
    injection he with e1 e2 e3
    injection e1 with e1
    injection e1 with e1 _ _
    subst e1 e3
    refine ⟨by rw [rcV_len, List.length_set], .inr ⟨g, _, _, by rw [ha], hb, Blk.set_ hg _ _, h1, h2, by rw [Array.size_setIfInBounds]; exact h3, ?_⟩⟩
    have hcs : L.length * 5 ≤ cur.size := by
      have : L.length * 5 ≤ c * 5 := Nat.mul_le_mul_right 5 h1
      omega
    apply List.ext_getElem?
    intro t
    by_cases ht : t < L.length * 5
    · rw [List.getElem?_take_of_lt ht, Array.getElem?_toList, Array.getElem?_setIfInBounds]
      have e2 := rcV_get (L.set i y) (i := t / 5) (r := t % 5) (by rw [List.length_set]; omega) (by omega)
      rw [show t / 5 * 5 + t % 5 = t by omega, getD_setR hi] at e2
      rw [e2]
      have e := rcV_get L (i := t / 5) (r := t % 5) (by omega) (by omega)
      rw [show t / 5 * 5 + t % 5 = t by omega] at e
      have h5 : (cur.toList.take (L.length * 5))[t]? = (rcV L)[t]? := by rw [h4]
      rw [List.getElem?_take_of_lt ht, Array.getElem?_toList] at h5
      by_cases hc : i * 5 + j = t
      · have q1 : t / 5 = i := by omega
        have q2 : t % 5 = j := by omega
        rw [if_pos hc, if_pos (by omega), q1, if_pos rfl, q2, hy, List.getElem?_set]
        simp [hj, rcE_len]
      · rw [if_neg hc, h5, e]
        by_cases hq : t / 5 = i
        · have q2 : ¬ j = t % 5 := by omega
          rw [if_pos hq, hq, hy, List.getElem?_set, if_neg q2]
        · rw [if_neg hq]
    · rw [List.getElem?_take_eq_none (by omega), List.getElem?_eq_none (by rw [rcV_len, List.length_set]; omega)]
/-- the search for the bird: where it is, and the last rank of the second day, behind the first k racers -/
structure LAt (L : List Rc) (b : Int) (k : Nat) (at_ last : Int) : Prop where
  at1 : (at_ = -1 ∧ ∀ j, j < k → ¬ ((L.getD j default).bird = b ∧ (L.getD j default).day = 0)) ∨ ∃ q : Nat, at_ = q ∧ q < k ∧ (L.getD q default).bird = b ∧ (L.getD q default).day = 0
  l0 : 0 ≤ last
  l1 : last ≤ 12
  le : ∀ j, j < k → (L.getD j default).day = 2 → (L.getD j default).rank ≤ last
end Go.Proofs.YtnkmcoljijmgpaaGreat

set_option linter.unusedSimpArgs false
set_option linter.unusedVariables false
namespace Go.Proofs.YtnkmcoljijmgpaaGreat
open Go.RowKit Go.Shelf Go.Sort Go.Maps
attribute [local go_sem] Oper.semAt_some
/-- some birds are struck -/
def outS (S : List Int) (x : Rc) : Rc := if inL S x.bird = true then ⟨x.bird, x.owner, 0, 0, x.pa, x.pc, x.pools⟩ else x
theorem outS_bird (S : List Int) (x : Rc) : (outS S x).bird = x.bird := by
  unfold outS
  split <;> rfl
theorem outS_no {S : List Int} {x : Rc} (h : inL S x.bird = false) : outS S x = x := by
  unfold outS
  rw [h]
  rfl
theorem outS_nil (x : Rc) : outS [] x = x := outS_no rfl
theorem uniq_out {l : List Rc} (h : Uniq l) (S : List Int) : Uniq (l.map (outS S)) := by
  unfold Uniq
  rw [List.pairwise_map]
  refine h.imp fun {x y} hxy => ?_
  rw [outS_bird, outS_bird]
  exact hxy
theorem runners_out {r r1 : Ra} {S : List Int} (h : r1.racers = r.racers.map (outS S)) (p : Int) : runners r1 p = (runners r p).map (outS S) := by
  unfold runners srt
  rw [h, List.filter_map, List.map_mergeSort (f := outS S) (r := fun x y : Rc => decide (x.bird ≤ y.bird)) (s := fun x y : Rc => decide (x.bird ≤ y.bird)) (fun x _ y _ => by rw [outS_bird, outS_bird])]
  have e : ((fun x : Rc => inL x.pools p) ∘ outS S) = fun x => inL x.pools p := funext fun x => by
    show inL (outS S x).pools p = _
    unfold outS
    split <;> rfl
  rw [e]
theorem out_takers {f f1 : Fu} {S T U : List Int} (hpo : f1.po = f.po) (hrs : f1.rs = f.rs.map (outS S)) (hU : ∀ b, inL U b = (inL T b || inL S b)) : takersL f1 T = takersL f U := by
  unfold takersL
  rw [hpo, hrs, List.filter_map]
  have e1 : f.rs.filter ((fun x => !skipB f.po.first T x) ∘ outS S) = f.rs.filter fun x => !skipB f.po.first U x := by
    refine List.filter_congr fun x _ => ?_
    show (!skipB f.po.first T (outS S x)) = !skipB f.po.first U x
    cases hs : inL S x.bird
    · rw [outS_no hs]
      unfold skipB
      rw [hU, hs, Bool.or_false]
    · have e2 : skipB f.po.first T (outS S x) = true := by
        unfold skipB outS
        rw [hs]
        simp
      have e3 : skipB f.po.first U x = true := by
        unfold skipB
        rw [hU, hs]
        simp
      rw [e2, e3]
  rw [e1]
  have e2 : (f.rs.filter fun x => !skipB f.po.first U x).map (outS S) = f.rs.filter fun x => !skipB f.po.first U x := by
    conv => rhs; rw [← List.map_id (f.rs.filter fun x => !skipB f.po.first U x)]
    refine List.map_congr_left fun x hxm => ?_
    obtain ⟨h1, h2⟩ := List.mem_filter.1 hxm
    refine outS_no ?_
    cases hs : inL S x.bird
    · rfl
    · have e3 : skipB f.po.first U x = true := by
        unfold skipB
        rw [hU, hs]
        simp
      rw [e3] at h2
      exact absurd h2 (by decide)
  rw [e2]
theorem out_order {f f1 : Fu} {S T U : List Int} (hpo : f1.po = f.po) (hrs : f1.rs = f.rs.map (outS S)) (hU : ∀ b, inL U b = (inL T b || inL S b)) : orderL f1 T = orderL f U := by
  unfold orderL
  rw [out_takers hpo hrs hU]
theorem out_places {f f1 : Fu} {S : List Int} (hpo : f1.po = f.po) (hrs : f1.rs = f.rs.map (outS S)) : placesL f1 = placesL f := by
  have hl : f1.rs.length = f.rs.length := by rw [hrs, List.length_map]
  unfold placesL nPl lefI kepI totI
  rw [hpo, hl]
theorem out_won {f f1 : Fu} {S T U : List Int} (hpo : f1.po = f.po) (hrs : f1.rs = f.rs.map (outS S)) (hU : ∀ b, inL U b = (inL T b || inL S b)) : wonL f1 T = wonL f U := by
  unfold wonL
  rw [out_order hpo hrs hU, out_places hpo hrs]
theorem asc_iff (l : List Int) : ascB l = true ↔ l.Pairwise (· < ·) := by
  unfold ascB
  rw [allU_iff]
  constructor
  · intro h
    have h1 : ∀ i j, i < j → j < l.length → l.getD i 0 < l.getD j 0 := fun i j hij => by
      induction hij with
      | refl =>
        intro hj
        have := h (i + 1) hj
        simp only [Bool.or_eq_true, decide_eq_true_eq] at this
        rcases this with c | c
        · omega
        · exact c
      | step hm ih =>
        rename_i m
        intro hj
        have h2 := ih (by omega)
        have := h (m + 1) hj
        simp only [Bool.or_eq_true, decide_eq_true_eq] at this
        rcases this with c | c
        · omega
        · exact Int.lt_trans h2 c
    rw [List.pairwise_iff_getElem]
    intro i j hi hj hij
    have := h1 i j hij hj
    rw [List.getD_eq_getElem?_getD, List.getD_eq_getElem?_getD, List.getElem?_eq_getElem hi, List.getElem?_eq_getElem hj] at this
    exact this
  · intro h k hk
    simp only [Bool.or_eq_true, decide_eq_true_eq]
    by_cases c : k = 0
    · exact .inl c
    · right
      have := List.pairwise_iff_getElem.1 h (k - 1) k (by omega) hk (by omega)
      rw [List.getD_eq_getElem?_getD, List.getD_eq_getElem?_getD, List.getElem?_eq_getElem hk, List.getElem?_eq_getElem (show k - 1 < l.length by omega)]
      exact this
theorem race_out {o o1 : Ra} (ho : raceB o = true) {S : List Int} (hr : o1.racers = o.racers.map (outS S)) (hp : o1.pools = o.pools) (ht : o1.protests.Sublist o.protests) : raceB o1 = true := by
  obtain ⟨⟨a1, a2, a3⟩, a4, ⟨a5, a6⟩, a7, a8⟩ := (race_iff o).1 ho
  have hasc := asc_iff
  refine (race_iff o1).2 ⟨⟨by rw [hp]; exact a1, Nat.le_trans ht.length_le a2, (hasc _).2 (((hasc _).1 a3).sublist ht)⟩, by rw [hp]; exact a4, ⟨by rw [hr, List.length_map]; exact a5, by rw [hr]; exact uniq_out a6 S⟩, fun x hx => ?_, fun k hk => ?_⟩
  · rw [hr] at hx
    obtain ⟨y, hy, rfl⟩ := List.mem_map.1 hx
    have h7 := a7 y hy
    rw [hp]
    unfold outS
    split
    · unfold racerB at h7 ⊢
      simp only [Bool.and_eq_true] at h7 ⊢
      refine ⟨h7.1, h7.2.1, ?_, h7.2.2.2⟩
      rfl
    · exact h7
  · have hm : o1.protests.getD k 0 ∈ o.protests := by
      rw [List.getD_eq_getElem?_getD, List.getElem?_eq_getElem hk]
      exact ht.subset (List.getElem_mem hk)
    obtain ⟨j, hj, e0⟩ := List.mem_iff_getElem.1 hm
    have h8 := a8 j hj
    rw [List.getD_eq_getElem?_getD, List.getElem?_eq_getElem hj] at h8
    obtain ⟨y, hy, e⟩ := hasB_mem.1 h8
    refine hasB_mem.2 ⟨outS S y, ?_, by rw [outS_bird, e, ← e0]; rfl⟩
    rw [hr]
    exact List.mem_map.2 ⟨y, hy, rfl⟩
theorem out_has {r r1 : Ra} {S : List Int} (h : r1.racers = r.racers.map (outS S)) (p b : Int) : hasB (runners r1 p) b = hasB (runners r p) b := by
  rw [Bool.eq_iff_iff, hasB_mem, hasB_mem, runners_out h]
  constructor
  · rintro ⟨x, hx, e⟩
    obtain ⟨y, hy, rfl⟩ := List.mem_map.1 hx
    exact ⟨y, hy, by rw [outS_bird] at e; exact e⟩
  · rintro ⟨x, hx, e⟩
    exact ⟨_, List.mem_map.2 ⟨x, hx, rfl⟩, by rw [outS_bird]; exact e⟩
theorem out_q {o o1 : Ra} (ho : raceB o = true) {S : List Int} (hr : o1.racers = o.racers.map (outS S)) (hp : o1.pools = o.pools) (ht : o1.protests.Sublist o.protests) (p : Int) (bs : List Int) : qE o1 p bs = qE o p bs := by
  have ho1 := race_out ho hr hp ht
  unfold qE
  rw [if_pos ho, if_pos ho1, hp]
  have e : (fun i => hasB (runners o1 p) (bs.getD i 0)) = fun i => hasB (runners o p) (bs.getD i 0) := funext fun i => out_has hr p _
  rw [e]
/-! the cases -/
theorem stTo_sub (ps : List Int) (n : Nat) : ∀ k, k ≤ ps.length → (stTo ps n k).Sublist (ps.take k)
  | 0, _ => by simp [stTo]
  | k + 1, h => by
    have ih := stTo_sub ps n k (by omega)
    have e : ps.take (k + 1) = ps.take k ++ [ps.getD k 0] := by
      rw [List.take_add_one, List.getElem?_eq_getElem (show k < ps.length by omega), List.getD_eq_getElem?_getD, List.getElem?_eq_getElem (show k < ps.length by omega)]
      rfl
    unfold stTo
    rw [e]
    split
    · exact ih.append (List.Sublist.refl _)
    · exact ih.trans (List.sublist_append_left _ _)
theorem bit_add {n j i : Nat} (h : i < j) : bitB (n + 2 ^ j) i = bitB n i := by
  unfold bitB
  have e : 2 ^ j = 2 ^ i * (2 * 2 ^ (j - i - 1)) := by
    rw [← Nat.mul_assoc, ← Nat.pow_succ, ← Nat.pow_add]
    congr 1
    omega
  rw [e, Nat.add_mul_div_left _ _ (Nat.two_pow_pos i), Nat.add_mul_mod_self_left]
theorem stTo_add (ps : List Int) {n j : Nat} : ∀ k, k ≤ j → stTo ps (n + 2 ^ j) k = stTo ps n k
  | 0, _ => rfl
  | k + 1, h => by
    unfold stTo
    rw [stTo_add ps k (by omega), bit_add (by omega)]
theorem bit_top {n j : Nat} (h : n < 2 ^ j) : bitB (n + 2 ^ j) j = true ∧ bitB n j = false := by
  unfold bitB
  have h1 : n / 2 ^ j = 0 := Nat.div_eq_of_lt h
  have h2 : (n + 2 ^ j) / 2 ^ j = 1 := by rw [Nat.add_div_right _ (Nat.two_pow_pos j), h1]
  rw [h1, h2]
  exact ⟨rfl, rfl⟩
theorem sub_stTo (ps : List Int) : ∀ k, k ≤ ps.length → ∀ T : List Int, T.Sublist (ps.take k) → ∃ n, n < 2 ^ k ∧ stTo ps n k = T
  | 0, _, T, h => by
    rw [List.take_zero, List.sublist_nil] at h
    exact ⟨0, by simp, h.symm⟩
  | k + 1, hk, T, h => by
    have e : ps.take (k + 1) = ps.take k ++ [ps.getD k 0] := by
      rw [List.take_add_one, List.getElem?_eq_getElem (show k < ps.length by omega), List.getD_eq_getElem?_getD, List.getElem?_eq_getElem (show k < ps.length by omega)]
      rfl
    rw [e] at h
    obtain ⟨T1, T2, rfl, h1, h2⟩ := List.sublist_append_iff.1 h
    obtain ⟨n, hn, he⟩ := sub_stTo ps k (by omega) T1 h1
    have hp : 2 ^ (k + 1) = 2 ^ k * 2 := Nat.pow_succ ..
    obtain ⟨b1, b2⟩ := bit_top hn
    have h2l := h2.length_le
    rw [List.length_singleton] at h2l
    match T2, h2, h2l with
    | [], _, _ =>
      refine ⟨n, by omega, ?_⟩
      unfold stTo
      rw [b2, he]
      simp
    | [x], h2, _ =>
      have hx : x = ps.getD k 0 := by
        have := h2.subset (List.mem_cons_self ..)
        simpa using this
      refine ⟨n + 2 ^ k, by omega, ?_⟩
      unfold stTo
      rw [b1, if_pos rfl, stTo_add ps k (Nat.le_refl _), he, hx]
theorem sub_case {ps T : List Int} (h : T.Sublist ps) : T ∈ caseL ps := by
  obtain ⟨n, hn, e⟩ := sub_stTo ps ps.length (Nat.le_refl _) T (by rw [List.take_length]; exact h)
  exact List.mem_map.2 ⟨n, List.mem_range.2 hn, e⟩
theorem case_pos (ps : List Int) : 0 < (caseL ps).length := by
  rw [caseL_len]
  exact Nat.two_pow_pos _
theorem foldl_min {α : Type} (v : α → Int) : ∀ (l : List α) (a : Int), l.foldl (fun a st => min a (v st)) a ≤ a ∧ (∀ x ∈ l, l.foldl (fun a st => min a (v st)) a ≤ v x) ∧ (l.foldl (fun a st => min a (v st)) a = a ∨ ∃ x ∈ l, l.foldl (fun a st => min a (v st)) a = v x)
  | [], a => ⟨Int.le_refl _, fun x h => by simp at h, .inl rfl⟩
  | y :: l, a => by
    obtain ⟨h1, h2, h3⟩ := foldl_min v l (min a (v y))
    rw [List.foldl_cons]
    refine ⟨by omega, fun x hx => ?_, ?_⟩
    · rcases List.mem_cons.1 hx with rfl | hx
      · omega
      · exact h2 x hx
    · rcases h3 with h3 | ⟨x, hx, h3⟩
      · by_cases c : a ≤ v y
        · exact .inl (by rw [h3]; omega)
        · exact .inr ⟨y, List.mem_cons_self .., by rw [h3]; omega⟩
      · exact .inr ⟨x, List.mem_cons_of_mem _ hx, h3⟩
theorem foldl_max {α : Type} (v : α → Int) : ∀ (l : List α) (a : Int), a ≤ l.foldl (fun a st => max a (v st)) a ∧ (∀ x ∈ l, v x ≤ l.foldl (fun a st => max a (v st)) a) ∧ (l.foldl (fun a st => max a (v st)) a = a ∨ ∃ x ∈ l, l.foldl (fun a st => max a (v st)) a = v x)
  | [], a => ⟨Int.le_refl _, fun x h => by simp at h, .inl rfl⟩
  | y :: l, a => by
    obtain ⟨h1, h2, h3⟩ := foldl_max v l (max a (v y))
    rw [List.foldl_cons]
    refine ⟨by omega, fun x hx => ?_, ?_⟩
    · rcases List.mem_cons.1 hx with rfl | hx
      · omega
      · exact h2 x hx
    · rcases h3 with h3 | ⟨x, hx, h3⟩
      · by_cases c : v y ≤ a
        · exact .inl (by rw [h3]; omega)
        · exact .inr ⟨y, List.mem_cons_self .., by rw [h3]; omega⟩
      · exact .inr ⟨x, List.mem_cons_of_mem _ hx, h3⟩
theorem nil_case (ps : List Int) : [] ∈ caseL ps := sub_case (List.nil_sublist _)
theorem can_lo (f : Fu) (b : Int) (ps : List Int) : (∀ U ∈ caseL ps, canLo f b (caseL ps) ≤ wonAt (wonL f U) b) ∧ ∃ U ∈ caseL ps, canLo f b (caseL ps) = wonAt (wonL f U) b := by
  obtain ⟨_, h2, h3⟩ := foldl_min (fun st => wonAt (wonL f st) b) (caseL ps) (wonAt (wonL f []) b)
  refine ⟨h2, ?_⟩
  rcases h3 with h3 | h3
  · exact ⟨[], nil_case ps, h3⟩
  · exact h3
theorem can_hi (f : Fu) (b : Int) (ps : List Int) : (∀ U ∈ caseL ps, wonAt (wonL f U) b ≤ canHi f b (caseL ps)) ∧ ∃ U ∈ caseL ps, canHi f b (caseL ps) = wonAt (wonL f U) b := by
  obtain ⟨_, h2, h3⟩ := foldl_max (fun st => wonAt (wonL f st) b) (caseL ps) (wonAt (wonL f []) b)
  refine ⟨h2, ?_⟩
  rcases h3 with h3 | h3
  · exact ⟨[], nil_case ps, h3⟩
  · exact h3
theorem cnt_all {f : Fu} {sts : List (List Int)} {b : Int} : cntI f sts b = sts.length ↔ ∀ st ∈ sts, inL (firstL f st) b = true := by
  unfold cntI
  rw [Int.natCast_inj, List.length_filter_eq_length_iff]
theorem cnt_some {f : Fu} {sts : List (List Int)} {b : Int} : 0 < cntI f sts b ↔ ∃ st ∈ sts, inL (firstL f st) b = true := by
  unfold cntI
  constructor
  · intro h
    obtain ⟨st, h1⟩ := List.exists_mem_of_length_pos (show 0 < (sts.filter fun st => inL (firstL f st) b).length by omega)
    exact ⟨st, List.mem_filter.1 h1⟩
  · rintro ⟨st, h1, h2⟩
    have := List.length_pos_of_mem (List.mem_filter (p := fun st => inL (firstL f st) b).2 ⟨h1, h2⟩)
    omega
theorem orderP {f g : Fu} (hp : poP f.po = poP g.po) (hr : f.rs.map rcK = g.rs.map rcK) (st : List Int) : orderL f st = orderL g st := by
  have := orderK (KEq.of hp hr) st
  exact this
/-- the race behind some decisions: its cases are such of the race before them -/
theorem case_all {r o o1 : Ra} {p : Int} {S : List Int} (hr : raceB r = true) (her : o.racers.map rcP = r.racers.map rcP) (hps : o.pools.map poP = r.pools.map poP) (hpr : o.protests = r.protests)
    (h1 : o1.racers = o.racers.map (outS S)) (h2 : o1.pools = o.pools) (h3 : o1.protests.Sublist r.protests) :
    raceB o1 = true ∧ (∀ bs, qE o1 p bs = qE r p bs) ∧ ∀ T U, (∀ b, inL U b = (inL T b || inL S b)) → wonL (fuOf o1 p none 0) T = wonL (fuOf r p none 0) U ∧ orderL (fuOf o1 p none 0) T = orderL (fuOf r p none 0) U := by
  obtain ⟨hreq, ho⟩ := req_copy hr her hps hpr
  have h3' : o1.protests.Sublist o.protests := by rw [hpr]; exact h3
  have hpo : (fuOf o1 p none 0).po = (fuOf o p none 0).po := by
    show poolAt o1 p = poolAt o p
    unfold poolAt
    rw [h2]
  have hrs : (fuOf o1 p none 0).rs = (fuOf o p none 0).rs.map (outS S) := runners_out h1 p
  refine ⟨race_out ho h1 h2 h3', fun bs => (out_q ho h1 h2 h3' p bs).trans (qE_E hreq hr ho p bs), fun T U hU => ⟨?_, ?_⟩⟩
  · rw [out_won hpo hrs hU]
    exact wonP (hreq.po p) (K_of_Q (hreq.rs p)) U
  · rw [out_order hpo hrs hU]
    exact orderP (hreq.po p) (K_of_Q (hreq.rs p)) U
end Go.Proofs.YtnkmcoljijmgpaaGreat

set_option linter.unusedSimpArgs false
set_option linter.unusedVariables false
namespace Go.Proofs.YtnkmcoljijmgpaaGreat
open Go.RowKit Go.Shelf Go.Sort Go.Maps
attribute [local go_sem] Oper.semAt_some
section
variable {P : Program} {ops : Array Oper} {md : Region.Mode} {Q : Exit → Act → World → Prop} {S : World → Prop} {z z' : Nat}
/-- from here on another operation is the last one that S waits for -/
theorem wpAnyY_weak : ∀ (fuel : Nat) (l : Array Bool) (a : Act) (w : World), wpAnyY P md ops Q S z fuel l a w → wpAnyY P md ops Q (fun _ => True) z' fuel l a w
  | 0, _, _, _, h => h
  | fuel + 1, l, a, w, h => ⟨h.1, fun i hi => wpOp_mono (fun a' w' hh => ⟨fun _ => trivial, wpAnyY_weak fuel _ _ _ hh.2⟩) (h.2 i hi)⟩
end
/-- b at place t of a list -/
def insAt (O : List Int) (b : Int) (t : Nat) : List Int := O.take t ++ b :: O.drop t
theorem insAt_len (O : List Int) (b : Int) (t : Nat) (h : t ≤ O.length) : (insAt O b t).length = O.length + 1 := by
  unfold insAt
  rw [List.length_append, List.length_take, List.length_cons, List.length_drop]
  omega
theorem insAt_end (O : List Int) (b : Int) : insAt O b O.length = O ++ [b] := by simp [insAt]
theorem insAt_get (O : List Int) (b : Int) {t : Nat} (h : t ≤ O.length) : (insAt O b t).getD t 0 = b := by
  unfold insAt
  rw [List.getD_eq_getElem?_getD, List.getElem?_append_right (by rw [List.length_take]; omega), List.length_take, show t - min t O.length = 0 by omega]
  rfl
theorem insAt_bef (O : List Int) (b : Int) {t m : Nat} (h : t ≤ O.length) (hm : m < t) : (insAt O b t).getD m 0 = O.getD m 0 := by
  unfold insAt
  rw [List.getD_eq_getElem?_getD, List.getElem?_append_left (by rw [List.length_take]; omega), List.getElem?_take_of_lt hm, List.getD_eq_getElem?_getD]
theorem insAt_step (O : List Int) (b : Int) {m : Nat} (h : m + 1 ≤ O.length) : ((insAt O b (m + 1)).set (m + 1) (O.getD m 0)).set m b = insAt O b m := by
  apply List.ext_getElem?
  intro i
  have hl : (insAt O b (m + 1)).length = O.length + 1 := insAt_len O b _ h
  rw [List.getElem?_set, List.length_set, hl, List.getElem?_set, hl]
  unfold insAt
  by_cases h1 : m = i
  · subst h1
    rw [if_pos rfl, if_pos (by omega), List.getElem?_append_right (by rw [List.length_take]; omega), List.length_take, show m - min m O.length = 0 by omega]
    rfl
  · rw [if_neg h1]
    by_cases h2 : m + 1 = i
    · subst h2
      rw [if_pos rfl, if_pos (by omega), List.getElem?_append_right (by rw [List.length_take]; omega), List.length_take, show m + 1 - min m O.length = 1 by omega]
      rw [List.getElem?_cons_succ, List.getElem?_drop, List.getD_eq_getElem?_getD, Nat.add_zero, List.getElem?_eq_getElem (by omega)]
      rfl
    · rw [if_neg h2]
      by_cases h3 : i < m
      · rw [List.getElem?_append_left (by rw [List.length_take]; omega), List.getElem?_append_left (by rw [List.length_take]; omega), List.getElem?_take_of_lt (by omega), List.getElem?_take_of_lt h3]
      · rw [List.getElem?_append_right (by rw [List.length_take]; omega), List.getElem?_append_right (by rw [List.length_take]; omega), List.length_take, List.length_take, show i - min (m + 1) O.length = (i - (m + 2)) + 1 by omega, show i - min m O.length = (i - (m + 2)) + 1 + 1 by omega]
        rw [List.getElem?_cons_succ, List.getElem?_cons_succ, List.getElem?_drop, List.getElem?_drop]
        congr 1
        omega
theorem insAt_perm (O : List Int) (b : Int) (t : Nat) : (insAt O b t).Perm (O ++ [b]) := by
  unfold insAt
  have h1 : (O.take t ++ b :: O.drop t).Perm (b :: (O.take t ++ O.drop t)) := List.perm_middle
  rw [List.take_append_drop] at h1
  exact h1.trans (List.perm_append_comm (l₁ := [b]) (l₂ := O))
theorem insAt_sorted {O : List Int} {b : Int} {t : Nat} (hs : O.Pairwise (· ≤ ·)) (ht : t ≤ O.length) (h1 : ∀ i, t ≤ i → i < O.length → b < O.getD i 0) (h2 : t = 0 ∨ O.getD (t - 1) 0 ≤ b) : (insAt O b t).Pairwise (· ≤ ·) := by
  have hg : ∀ i (hi : i < O.length), O.getD i 0 = O[i] := fun i hi => by simp [List.getD_eq_getElem?_getD, hi]
  have hle : ∀ x ∈ O.take t, x ≤ b := fun x hx => by
    obtain ⟨i, hi, rfl⟩ := List.mem_iff_getElem.1 hx
    rw [List.length_take] at hi
    rw [List.getElem_take]
    rcases h2 with rfl | h2
    · omega
    · rw [hg _ (by omega)] at h2
      by_cases e : i = t - 1
      · subst e; exact h2
      · have := List.pairwise_iff_getElem.1 hs i (t - 1) (by omega) (by omega) (by omega)
        exact Int.le_trans this h2
  have hge : ∀ x ∈ O.drop t, b ≤ x := fun x hx => by
    obtain ⟨i, hi, rfl⟩ := List.mem_iff_getElem.1 hx
    rw [List.length_drop] at hi
    rw [List.getElem_drop]
    have := h1 (t + i) (by omega) (by omega)
    rw [hg _ (by omega)] at this
    omega
  unfold insAt
  rw [List.pairwise_append]
  refine ⟨hs.sublist (List.take_sublist _ _), ?_, fun x hx y hy => ?_⟩
  · rw [List.pairwise_cons]
    exact ⟨hge, hs.sublist (List.drop_sublist _ _)⟩
  · rcases List.mem_cons.1 hy with rfl | hy
    · exact hle x hx
    · exact Int.le_trans (hle x hx) (hge y hy)
/-- the rings of the birds that are nominated, of the first k racers, ascending -/
structure NamAt (r : Ra) (p : Int) (k : Nat) (O : List Int) : Prop where
  perm : O.Perm ((runs r p k).map Rc.bird)
  srt : O.Pairwise (· ≤ ·)
def namedL (r : Ra) (p : Int) : List Int := (runners r p).map Rc.bird
theorem NamAt.all {r : Ra} {p : Int} {O : List Int} (h : NamAt r p r.racers.length O) : O = namedL r p := by
  have hp : O.Perm (namedL r p) := by
    refine h.perm.trans ?_
    unfold namedL runners runs
    rw [List.take_length]
    exact ((srt_perm _).map _).symm
  have hs : (namedL r p).Pairwise (· ≤ ·) := by
    unfold namedL
    rw [List.pairwise_map]
    exact runners_sorted r p
  exact List.Perm.eq_of_pairwise (le := fun a b : Int => a ≤ b) (fun a b _ _ h1 h2 => by omega) h.srt hs hp
theorem NamAt.skip {r : Ra} {p : Int} {k : Nat} {O : List Int} (h : NamAt r p k O) (hk : k < r.racers.length) (hn : inL (r.racers.getD k default).pools p = false) : NamAt r p (k + 1) O := by
  refine ⟨?_, h.srt⟩
  rw [runs_succ r p hk, if_neg (by rw [hn]; decide)]
  exact h.perm
theorem NamAt.put {r : Ra} {p : Int} {k t : Nat} {O : List Int} (h : NamAt r p k O) (hk : k < r.racers.length) (hn : inL (r.racers.getD k default).pools p = true) (ht : t ≤ O.length) (h1 : ∀ i, t ≤ i → i < O.length → (r.racers.getD k default).bird < O.getD i 0) (h2 : t = 0 ∨ O.getD (t - 1) 0 ≤ (r.racers.getD k default).bird) : NamAt r p (k + 1) (insAt O (r.racers.getD k default).bird t) := by
  refine ⟨?_, insAt_sorted h.srt ht h1 h2⟩
  rw [runs_succ r p hk, if_pos hn, List.map_append]
  exact (insAt_perm _ _ _).trans (List.Perm.append_right _ h.perm)
/-- a store into a row of numbers of one's own -/
theorem own_int_put {W : World} {B i g c : Nat} {L : List Int} {x : Int} (h : W.ownsRow B 3 1 (.slice (some ⟨g, 0, none⟩) L.length c) L.length (iv L)) (hi : i < L.length) :
    (W.setCell ⟨g, i, none⟩ (.int .i64 x)).ownsRow B 3 1 (.slice (some ⟨g, 0, none⟩) L.length c) L.length (iv (L.set i x)) := by
  rcases h.2 with ⟨he, _⟩ | ⟨g', cap, cur, he, hb, hg, h1, h2, h3, h4⟩
  · cases he
  · injection he with e1 e2 e3
    injection e1 with e1
    injection e1 with e1 _ _
    subst e1 e3
    refine ⟨by rw [iv_len, List.length_set]; omega, .inr ⟨g, _, _, rfl, hb, Blk.set_ hg _ _, h1, h2, by rw [Array.size_setIfInBounds]; exact h3, ?_⟩⟩
    have hcs : L.length * 1 ≤ cur.size := by
      have : L.length * 1 ≤ c * 1 := Nat.mul_le_mul_right 1 h1
      omega
    have e : iv (L.set i x) = (iv L).set i (.int .i64 x) := by
      unfold iv
      rw [List.map_set]
    rw [e, ← h4]
    rw [Array.toList_setIfInBounds, List.take_set]
theorem own_int_cell {W : World} {B i g c : Nat} {L : List Int} (h : W.ownsRow B 3 1 (.slice (some ⟨g, 0, none⟩) L.length c) L.length (iv L)) (hi : i < L.length) : W.cell? ⟨g, i, none⟩ = some (.int .i64 (L.getD i 0)) ∧ W.frozen? ⟨g, i, none⟩ = false ∧ g < W.heap.size ∧ B ≤ g := by
  rcases h.2 with ⟨he, _⟩ | ⟨g', cap, cur, he, hb, hg, h1, h2, h3, h4⟩
  · cases he
  · injection he with e1 e2 e3
    injection e1 with e1
    injection e1 with e1 _ _
    subst e1 e3
    have hB : Blk W g 3 cur := hg
    exact ⟨take_cell hB h4 (k := i) (by omega) (iv_get L hi), hB.frozen i, hB.lt, hb⟩
set_option maxRecDepth 100000 in
set_option maxHeartbeats 8000000 in
theorem Named_any (r : Ra) (p : Int) (w : World) (h : r.At w) (h12 : r.racers.length ≤ 1000) : Calls Tryz.prog 16 #[.agg r.v, .int .i64 p] w fun e w' => G w w' ∧ ∃ v, e = .returned v ∧ w'.ownsRow w.heap.size 3 1 v (namedL r p).length (iv (namedL r p)) := by
  have hrv : r.v = #[.slice r.ra r.racers.length r.rc, .slice r.pa r.pools.length r.pc, .slice r.ta r.protests.length r.tc] := rfl
  obtain ⟨i0, hi0, hz0, hz1, hz2⟩ := info_parts info3
  obtain ⟨W1, hW1⟩ : ∃ W1, W1 = w.alloc (.cells #[.slice r.ra r.racers.length r.rc, .slice r.pa r.pools.length r.pc, .slice r.ta r.protests.length r.tc] 26) := ⟨_, rfl⟩
  have g0 : G w W1 := by rw [hW1]; exact (G.rf _).a _
  have b0 : Blk W1 w.heap.size 26 #[.slice r.ra r.racers.length r.rc, .slice r.pa r.pools.length r.pc, .slice r.ta r.protests.length r.tc] := by rw [hW1]; exact Blk.new _ _ _
  have HRS := Lib.hid (h.rs.below g0)
  have HNQ := Lib.hid h.nq
  have HB0 := Lib.hid b0
  rw [hrv]
  clear h hrv
  go_enter Tryz.func16, Tryz.ntmps16
  go_upto_region 1 with fail
  change Code.wp _ _ _ _ (w.alloc (.cells #[.slice r.ra r.racers.length r.rc, .slice r.pa r.pools.length r.pc, .slice r.ta r.protests.length r.tc] 26))
  rw [← hW1]
  clear hW1 b0
  go_wp2_with fail
  go_loopw [5, 6] (fun v i wr => ∃ (k : Nat) (O : List Int), k ≤ r.racers.length ∧ i = .int .i64 k ∧ Hid (wr.ownsRow W1.heap.size 3 1 v O.length (iv O)) ∧ Hid (NamAt r p k O) ∧ O.length ≤ k ∧ G W1 wr) (fun _ i _ => r.racers.length - (intOf i).toNat)
  case atStart => exact ⟨0, [], Nat.zero_le _, rfl, World.ownsRow_nil _ _ _ _, ⟨by simp [runs], List.Pairwise.nil⟩, Nat.le_refl _, G.rf _⟩
  case round =>
    obtain ⟨k, O, hk, rfl, HO, HNA, hOk, hG⟩ := hrel
    obtain ⟨wo, rfl⟩ : ∃ wo, wo = wr := ⟨_, rfl⟩
    have bo := HB0.out.keep hG
    have n0 := bo.cell 0
    have ln := bo.lt
    by_cases hlt : k < r.racers.length
    · have hki : (k : Int) < r.racers.length := by omega
      rcases (HRS.out.below hG).row with hx | ⟨gr, ofr, hre, hgr, hcell⟩
      · omega
      have hcl := hcell k hlt
      have hpi := (HRS.out.below hG).pools k hlt
      have hnq := HNQ.out k hlt
      rw [hre] at n0
      have n0' : wo.cell? ⟨w.heap.size, 0, none⟩ = some (.slice (some ⟨gr, ofr, none⟩) r.racers.length r.rc) := n0
      obtain ⟨z, hz⟩ : ∃ z, z = r.racers.getD k default := ⟨_, rfl⟩
      have HZ := Lib.hid hz
      rw [← hz] at hcl hpi hnq
      clear hz hcell n0 hre
      obtain ⟨zbird, zowner, zrank, zday, zpa, zpc, zpools⟩ := z
      unfold Rc.v at hcl
      dsimp only at hpi hnq
      have q0 : wo.cell? ⟨gr, ofr + k * 5, none⟩ = some (.int .i64 zbird) := hcl 0 (by omega)
      have q4 : wo.cell? ⟨gr, ofr + k * 5 + 4, none⟩ = some (.slice zpa zpools.length zpc) := hcl 4 (by omega)
      clear hcl
      have HIN := Lib.hid (In_any zpools zpa zpc p wo hpi hnq)
      have EZ : Hid (inL (r.racers.getD k default).pools p = inL zpools p) := by rw [Hid, ← HZ.out]
      have EB : Hid ((r.racers.getD k default).bird = zbird) := by rw [Hid, ← HZ.out]
      have HSZ : Hid (W1.heap.size ≤ wo.heap.size) := hG.size
      clear hpi hnq
      cases hil : inL zpools p
      · rw [hil] at HIN
        have HIL := Lib.hid hil
        clear hil
        go_wp2_with (go_at_call 28; refine (HIN.out).mono ?_; rintro e w2 ⟨rfl, hG2⟩)
        have gz := hG.t hG2
        have HOZ := Lib.hid (own_G HO.out hG2)
        go_roundw
        case rel => exact ⟨k + 1, O, by omega, by go_num, HOZ.out, HNA.out.skip hlt (EZ.out.trans HIL.out), by omega, gz⟩
        case measure => simp [intOf] <;> omega
      · rw [hil] at HIN
        have HIL := Lib.hid hil
        clear hil
        go_upto_region 6 with (go_at_call 28; refine (HIN.out).mono ?_; rintro e w2 ⟨rfl, hG2⟩)
        have gw2 := hG.t hG2
        have bo2 := bo.keep hG2
        have p0 : w2.cell? ⟨w.heap.size, 0, none⟩ = some (.slice (some ⟨gr, ofr, none⟩) r.racers.length r.rc) := ((bcellB hG2).1 _ _ bo.lt).trans n0'
        have lp := bo2.lt
        have x0 : w2.cell? ⟨gr, ofr + k * 5, none⟩ = some (.int .i64 zbird) := ((bcellB hG2).1 gr _ hgr).trans q0
        have lx := Nat.lt_of_lt_of_le hgr hG2.size
        have HO2 := Lib.hid (own_G HO.out hG2)
        clear n0' ln q0 q4 bo bo2
        go_wp2_with (at_builtin; refine wpList_append_own _ rfl _ _ 24 rfl W1.heap.size 3 i0 (.int .i64 0) 1 8 Tryz.underlying24 hi0 hz0 hz1 hz2 rfl (by decide) _ O.length (iv O) rfl ?hown ⟨_, 0, none⟩ 1 1 [.int .i64 zbird] rfl rfl (cell_one_new _ _ _) (by simp [Value.oneCell']) (by unfold maxLen; omega) (by omega) ?hbase ?hrest)
        case hown => exact own_G HO2.out ((G.rf _).a _)
        case hbase => exact (gw2.a (.cells #[.int .i64 zbird] 3)).size
        case hrest =>
          intro v9 w9 hown9 hg9 _
          have gz : G W1 w9 := grow_own (gw2.a _) (own_G HO2.out ((G.rf _).a _)) (Nat.le_refl _) hg9
          obtain ⟨g, cap, cur, hv9, _, _, _⟩ := own_some hown9 (by omega)
          subst hv9
          have hend := insAt_end O zbird
          obtain ⟨N, hN⟩ : ∃ N, N = O.length + 1 := ⟨_, rfl⟩
          rw [← hN] at hown9
          have HO9 : Hid (w9.ownsRow W1.heap.size 3 1 (.slice (some ⟨g, 0, none⟩) N cap) N (iv (insAt O zbird O.length))) := by
            rw [Hid, hend, iv_snoc]
            exact hown9
          have hwN : IntKind.i64.wrap ((N : Int) - 1) = (O.length : Int) := by
            rw [show (N : Int) - 1 = (O.length : Int) by omega]
            exact IntWalk.i64_in _ (by omega)
          have HN := Lib.hid hN
          rw [← hN]
          clear hown9 hg9 hend hN HO2 HO p0 lp x0 lx HIN hgr
          go_wp2_with fail
          go_loopw [7] (fun vi wr => ∃ t : Nat, t ≤ O.length ∧ vi = .int .i64 t ∧ Hid (wr.ownsRow W1.heap.size 3 1 (.slice (some ⟨g, 0, none⟩) N cap) N (iv (insAt O zbird t))) ∧ Hid (∀ i, t ≤ i → i < O.length → zbird < O.getD i 0) ∧ G W1 wr) (fun vi _ => (intOf vi).toNat)
          case atStart => exact ⟨O.length, Nat.le_refl _, rfl, HO9.out, fun i h1 h2 => by omega, gz⟩
          case round =>
            clear HO9 gz
            obtain ⟨t, ht, rfl, HI, HBI, hG3⟩ := hrel
            obtain ⟨w10, rfl⟩ : ∃ w10, w10 = wr := ⟨_, rfl⟩
            have hLn : (insAt O zbird t).length = N := by rw [insAt_len O zbird t ht, HN.out]
            have hI := HI.out
            have HLN := Lib.hid hLn
            have htN : t < N := by have := HN.out; omega
            have htNi : (t : Int) < N := by omega
            have hcell : ∀ (W : World), W.ownsRow W1.heap.size 3 1 (.slice (some ⟨g, 0, none⟩) N cap) N (iv (insAt O zbird t)) → ∀ i, i < N → W.cell? ⟨g, i, none⟩ = some (.int .i64 ((insAt O zbird t).getD i 0)) ∧ W.frozen? ⟨g, i, none⟩ = false ∧ g < W.heap.size ∧ W1.heap.size ≤ g := fun W hW i hi => by
              rw [← hLn] at hW hi
              exact own_int_cell hW hi
            clear hLn
            by_cases ht0 : t = 0
            · subst ht0
              go_upto_region 8 with fail
              refine wp_region_Y (S := fun W' => True) 13 14 rfl (by kernel_rfl) trivial (fun hS => ?_)
              have ga := (G.rf w10).d
              refine wpAnyY_take (i := 0) (v := ?_) rfl (by kernel_rfl) (by kernel_rfl) (by kernel_rfl) (by kernel_rfl) (fun _ _ _ h => h) (Or.inl ⟨by kernel_rfl, ?_⟩) hS ?_
              rotate_left
              · intro w' hSw; go_simp; with_reducible rfl
              try simp only [Act.put, List.getElem_toArray, List.getElem_cons_zero, List.getElem_cons_succ, List.setIfInBounds_toArray, List.set_cons_zero, List.set_cons_succ]
              refine wpAnyY_take (i := 1) (v := ?_) rfl (by kernel_rfl) (by kernel_rfl) (by kernel_rfl) (by kernel_rfl) (fun _ _ _ h => h) (Or.inl ⟨by kernel_rfl, ?_⟩) hS ?_
              rotate_left
              · intro w' hSw; go_simp; with_reducible rfl
              try simp only [Act.put, List.getElem_toArray, List.getElem_cons_zero, List.getElem_cons_succ, List.setIfInBounds_toArray, List.set_cons_zero, List.set_cons_succ]
              refine wpAnyY_take (i := 2) (v := ?_) rfl (by kernel_rfl) (by kernel_rfl) (by kernel_rfl) (by kernel_rfl) (fun _ _ _ h => h) (Or.inl ⟨by kernel_rfl, ?_⟩) hS ?_
              rotate_left
              · intro w' hSw; go_simp; with_reducible rfl
              try simp only [Act.put, List.getElem_toArray, List.getElem_cons_zero, List.getElem_cons_succ, List.setIfInBounds_toArray, List.set_cons_zero, List.set_cons_succ]
              refine wpAnyY_take (i := 3) (v := undef) rfl (by kernel_rfl) (by kernel_rfl) (by kernel_rfl) (by kernel_rfl) (fun _ _ _ h => h) (Or.inr ⟨by kernel_rfl, rfl⟩) hS ?_
              try simp only [Act.put, List.getElem_toArray, List.getElem_cons_zero, List.getElem_cons_succ, List.setIfInBounds_toArray, List.set_cons_zero, List.set_cons_succ]
              refine wpAnyY_take (i := 4) (v := undef) rfl (by kernel_rfl) (by kernel_rfl) (by kernel_rfl) (by kernel_rfl) (fun _ _ _ h => h) (Or.inr ⟨by kernel_rfl, rfl⟩) hS ?_
              try simp only [Act.put, List.getElem_toArray, List.getElem_cons_zero, List.getElem_cons_succ, List.setIfInBounds_toArray, List.set_cons_zero, List.set_cons_succ]
              refine wpAnyY_take (i := 5) (v := undef) rfl (by kernel_rfl) (by kernel_rfl) (by kernel_rfl) (by kernel_rfl) (fun _ _ _ h => h) (Or.inr ⟨by kernel_rfl, rfl⟩) hS ?_
              try simp only [Act.put, List.getElem_toArray, List.getElem_cons_zero, List.getElem_cons_succ, List.setIfInBounds_toArray, List.set_cons_zero, List.set_cons_succ]
              refine wpAnyY_take (i := 6) (v := undef) rfl (by kernel_rfl) (by kernel_rfl) (by kernel_rfl) (by kernel_rfl) (fun _ _ _ h => h) (Or.inr ⟨by kernel_rfl, rfl⟩) hS ?_
              try simp only [Act.put, List.getElem_toArray, List.getElem_cons_zero, List.getElem_cons_succ, List.setIfInBounds_toArray, List.set_cons_zero, List.set_cons_succ]
              refine wpAnyY_take (i := 7) (v := undef) rfl (by kernel_rfl) (by kernel_rfl) (by kernel_rfl) (by kernel_rfl) (fun _ _ _ h => h) (Or.inr ⟨by kernel_rfl, rfl⟩) hS ?_
              try simp only [Act.put, List.getElem_toArray, List.getElem_cons_zero, List.getElem_cons_succ, List.setIfInBounds_toArray, List.set_cons_zero, List.set_cons_succ]
              refine wpAnyY_take (i := 8) (v := undef) rfl (by kernel_rfl) (by kernel_rfl) (by kernel_rfl) (by kernel_rfl) (fun _ _ _ h => h) (Or.inr ⟨by kernel_rfl, rfl⟩) hS ?_
              try simp only [Act.put, List.getElem_toArray, List.getElem_cons_zero, List.getElem_cons_succ, List.setIfInBounds_toArray, List.set_cons_zero, List.set_cons_succ]
              refine wpAnyY_take (i := 9) (v := undef) rfl (by kernel_rfl) (by kernel_rfl) (by kernel_rfl) (by kernel_rfl) (fun _ _ _ h => h) (Or.inr ⟨by kernel_rfl, rfl⟩) hS ?_
              try simp only [Act.put, List.getElem_toArray, List.getElem_cons_zero, List.getElem_cons_succ, List.setIfInBounds_toArray, List.set_cons_zero, List.set_cons_succ]
              refine wpAnyY_take (i := 10) (v := undef) rfl (by kernel_rfl) (by kernel_rfl) (by kernel_rfl) (by kernel_rfl) (fun _ _ _ h => h) (Or.inr ⟨by kernel_rfl, rfl⟩) hS ?_
              try simp only [Act.put, List.getElem_toArray, List.getElem_cons_zero, List.getElem_cons_succ, List.setIfInBounds_toArray, List.set_cons_zero, List.set_cons_succ]
              refine wpAnyY_take (i := 11) (v := undef) rfl (by kernel_rfl) (by kernel_rfl) (by kernel_rfl) (by kernel_rfl) (fun _ _ _ h => h) (Or.inr ⟨by kernel_rfl, rfl⟩) hS ?_
              try simp only [Act.put, List.getElem_toArray, List.getElem_cons_zero, List.getElem_cons_succ, List.setIfInBounds_toArray, List.set_cons_zero, List.set_cons_succ]
              refine wpAnyY_take (i := 12) (v := undef) rfl (by kernel_rfl) (by kernel_rfl) (by kernel_rfl) (by kernel_rfl) (fun _ _ _ h => h) (Or.inr ⟨by kernel_rfl, rfl⟩) hS ?_
              try simp only [Act.put, List.getElem_toArray, List.getElem_cons_zero, List.getElem_cons_succ, List.setIfInBounds_toArray, List.set_cons_zero, List.set_cons_succ]
              refine wpAnyY_oneW (i := 13) (by kernel_rfl) rfl (by kernel_rfl) (by kernel_rfl) (fun K13 hK13 => ?_)
              go_simp
              refine hK13.out _ _ ?_
              clear hK13
              try simp only [Act.put, List.getElem_toArray, List.getElem_cons_zero, List.getElem_cons_succ, List.setIfInBounds_toArray, List.set_cons_zero, List.set_cons_succ]
              refine wpAnyY_done (by kernel_rfl) ?_ _
              have HFIN := Lib.hid (own_G hI ga)
              have gzz := hG3.t ga
              clear hcell hI hS
              go_wp2_with fail
              go_roundw
              case rel => exact ⟨k + 1, insAt O zbird 0, by omega, by go_num, by rw [HLN.out]; exact HFIN.out, by rw [← EB.out]; exact HNA.out.put hlt (EZ.out.trans HIL.out) ht (by rw [EB.out]; exact HBI.out) (.inl rfl), by rw [HLN.out, HN.out]; omega, gzz⟩
              case measure => simp [intOf] <;> omega
            · obtain ⟨m, hm⟩ : ∃ m, m = t - 1 := ⟨_, rfl⟩
              have hmt : t = m + 1 := by omega
              have hwt : IntKind.i64.wrap ((t : Int) - 1) = (m : Int) := by
                rw [show (t : Int) - 1 = (m : Int) by omega]
                exact IntWalk.i64_in _ (by omega)
              have hti : (0 : Int) < (t : Int) := by omega
              have hd1 : decide ((0 : Int) < (t : Int)) = true := decide_eq_true hti
              have hd2 : decide (0 < t) = true := decide_eq_true (by omega)
              have hmN : m < N := by omega
              have hmNi : (m : Int) < N := by omega
              have HMT := Lib.hid hmt
              have eb : (insAt O zbird t).getD t 0 = zbird := insAt_get O zbird ht
              have em : (insAt O zbird t).getD m 0 = O.getD m 0 := insAt_bef O zbird ht (by omega)
              have HSTP : Hid (((insAt O zbird t).set t (O.getD m 0)).set m zbird = insAt O zbird m) := by
                rw [Hid, hmt]
                exact insAt_step O zbird (by omega)
              obtain ⟨xm, hxm⟩ : ∃ xm, xm = O.getD m 0 := ⟨_, rfl⟩
              rw [← hxm] at em HSTP
              have HXM := Lib.hid hxm
              clear hm hmt hxm
              have hSk : ∀ W', G w10 W' → W'.cell? ⟨g, t, none⟩ = some (.int .i64 zbird) ∧ W'.cell? ⟨g, m, none⟩ = some (.int .i64 xm) ∧ g < W'.heap.size := fun W' hW => by
                have a1 := hcell W' (own_G hI hW) t htN
                have a2 := hcell W' (own_G hI hW) m hmN
                rw [eb] at a1
                rw [em] at a2
                exact ⟨a1.1, a2.1, a1.2.2.1⟩
              have HI10 := Lib.hid hI
              have HCE := Lib.hid hcell
              have HSK := Lib.hid hSk
              clear hcell hI
              by_cases hbm : zbird < xm
              · have hd : decide (zbird < xm) = true := decide_eq_true hbm
                have HBM := Lib.hid hbm
                clear hbm
                go_upto_region 8 with fail
                refine wp_region_Y (S := fun W' => W'.cell? ⟨g, t, none⟩ = some (.int .i64 zbird) ∧ W'.cell? ⟨g, m, none⟩ = some (.int .i64 xm) ∧ g < W'.heap.size) 13 14 rfl (by kernel_rfl) (hSk _ (G.rf _).d) (fun hS => ?_)
                clear eb em hSk
                refine wpAnyY_take (i := 0) (v := ?_) rfl (by kernel_rfl) (by kernel_rfl) (by kernel_rfl) (by kernel_rfl) (fun _ _ _ h => h) (Or.inl ⟨by kernel_rfl, ?_⟩) hS ?_
                rotate_left
                · intro w' hSw; go_simp; with_reducible rfl
                try simp only [Act.put, List.getElem_toArray, List.getElem_cons_zero, List.getElem_cons_succ, List.setIfInBounds_toArray, List.set_cons_zero, List.set_cons_succ]
                refine wpAnyY_take (i := 1) (v := ?_) rfl (by kernel_rfl) (by kernel_rfl) (by kernel_rfl) (by kernel_rfl) (fun _ _ _ h => h) (Or.inl ⟨by kernel_rfl, ?_⟩) hS ?_
                rotate_left
                · intro w' hSw; go_simp; with_reducible rfl
                try simp only [Act.put, List.getElem_toArray, List.getElem_cons_zero, List.getElem_cons_succ, List.setIfInBounds_toArray, List.set_cons_zero, List.set_cons_succ]
                refine wpAnyY_take (i := 2) (v := ?_) rfl (by kernel_rfl) (by kernel_rfl) (by kernel_rfl) (by kernel_rfl) (fun _ _ _ h => h) (Or.inl ⟨by kernel_rfl, ?_⟩) hS ?_
                rotate_left
                · intro w' hSw; go_simp; with_reducible rfl
                try simp only [Act.put, List.getElem_toArray, List.getElem_cons_zero, List.getElem_cons_succ, List.setIfInBounds_toArray, List.set_cons_zero, List.set_cons_succ]
                refine wpAnyY_take (i := 3) (v := ?_) rfl (by kernel_rfl) (by kernel_rfl) (by kernel_rfl) (by kernel_rfl) (fun _ _ _ h => h) (Or.inl ⟨by kernel_rfl, ?_⟩) hS ?_
                rotate_left
                · intro w' hSw; go_simp; with_reducible rfl
                try simp only [Act.put, List.getElem_toArray, List.getElem_cons_zero, List.getElem_cons_succ, List.setIfInBounds_toArray, List.set_cons_zero, List.set_cons_succ]
                refine wpAnyY_take (i := 4) (v := ?_) rfl (by kernel_rfl) (by kernel_rfl) (by kernel_rfl) (by kernel_rfl) (fun _ _ _ h => h) (Or.inl ⟨by kernel_rfl, ?_⟩) hS ?_
                rotate_left
                · intro w' hSw; go_simp; with_reducible rfl
                try simp only [Act.put, List.getElem_toArray, List.getElem_cons_zero, List.getElem_cons_succ, List.setIfInBounds_toArray, List.set_cons_zero, List.set_cons_succ]
                refine wpAnyY_take (i := 5) (v := ?_) rfl (by kernel_rfl) (by kernel_rfl) (by kernel_rfl) (by kernel_rfl) (fun _ _ _ h => h) (Or.inl ⟨by kernel_rfl, ?_⟩) hS ?_
                rotate_left
                · intro w' hSw; go_simp; with_reducible rfl
                try simp only [Act.put, List.getElem_toArray, List.getElem_cons_zero, List.getElem_cons_succ, List.setIfInBounds_toArray, List.set_cons_zero, List.set_cons_succ]
                refine wpAnyY_take (i := 6) (v := ?_) rfl (by kernel_rfl) (by kernel_rfl) (by kernel_rfl) (by kernel_rfl) (fun _ _ _ h => h) (Or.inl ⟨by kernel_rfl, ?_⟩) hS ?_
                rotate_left
                · intro w' hSw; obtain ⟨s0, s1, s2⟩ := hSw; go_simp; with_reducible rfl
                try simp only [Act.put, List.getElem_toArray, List.getElem_cons_zero, List.getElem_cons_succ, List.setIfInBounds_toArray, List.set_cons_zero, List.set_cons_succ]
                refine wpAnyY_take (i := 7) (v := ?_) rfl (by kernel_rfl) (by kernel_rfl) (by kernel_rfl) (by kernel_rfl) (fun _ _ _ h => h) (Or.inl ⟨by kernel_rfl, ?_⟩) hS ?_
                rotate_left
                · intro w' hSw; go_simp; with_reducible rfl
                try simp only [Act.put, List.getElem_toArray, List.getElem_cons_zero, List.getElem_cons_succ, List.setIfInBounds_toArray, List.set_cons_zero, List.set_cons_succ]
                refine wpAnyY_take (i := 8) (v := ?_) rfl (by kernel_rfl) (by kernel_rfl) (by kernel_rfl) (by kernel_rfl) (fun _ _ _ h => h) (Or.inl ⟨by kernel_rfl, ?_⟩) hS ?_
                rotate_left
                · intro w' hSw; go_simp; with_reducible rfl
                try simp only [Act.put, List.getElem_toArray, List.getElem_cons_zero, List.getElem_cons_succ, List.setIfInBounds_toArray, List.set_cons_zero, List.set_cons_succ]
                refine wpAnyY_take (i := 9) (v := ?_) rfl (by kernel_rfl) (by kernel_rfl) (by kernel_rfl) (by kernel_rfl) (fun _ _ _ h => h) (Or.inl ⟨by kernel_rfl, ?_⟩) hS ?_
                rotate_left
                · intro w' hSw; go_simp; with_reducible rfl
                try simp only [Act.put, List.getElem_toArray, List.getElem_cons_zero, List.getElem_cons_succ, List.setIfInBounds_toArray, List.set_cons_zero, List.set_cons_succ]
                refine wpAnyY_take (i := 10) (v := ?_) rfl (by kernel_rfl) (by kernel_rfl) (by kernel_rfl) (by kernel_rfl) (fun _ _ _ h => h) (Or.inl ⟨by kernel_rfl, ?_⟩) hS ?_
                rotate_left
                · intro w' hSw; go_simp; with_reducible rfl
                try simp only [Act.put, List.getElem_toArray, List.getElem_cons_zero, List.getElem_cons_succ, List.setIfInBounds_toArray, List.set_cons_zero, List.set_cons_succ]
                refine wpAnyY_take (i := 11) (v := ?_) rfl (by kernel_rfl) (by kernel_rfl) (by kernel_rfl) (by kernel_rfl) (fun _ _ _ h => h) (Or.inl ⟨by kernel_rfl, ?_⟩) hS ?_
                rotate_left
                · intro w' hSw; obtain ⟨s0, s1, s2⟩ := hSw; go_simp; with_reducible rfl
                try simp only [Act.put, List.getElem_toArray, List.getElem_cons_zero, List.getElem_cons_succ, List.setIfInBounds_toArray, List.set_cons_zero, List.set_cons_succ]
                refine wpAnyY_take (i := 12) (v := ?_) rfl (by kernel_rfl) (by kernel_rfl) (by kernel_rfl) (by kernel_rfl) (fun _ _ _ h => h) (Or.inl ⟨by kernel_rfl, ?_⟩) hS ?_
                rotate_left
                · intro w' hSw; go_simp; with_reducible rfl
                try simp only [Act.put, List.getElem_toArray, List.getElem_cons_zero, List.getElem_cons_succ, List.setIfInBounds_toArray, List.set_cons_zero, List.set_cons_succ]
                refine wpAnyY_oneW (i := 13) (by kernel_rfl) rfl (by kernel_rfl) (by kernel_rfl) (fun K13 hK13 => ?_)
                go_simp
                refine hK13.out _ _ ?_
                clear hK13
                try simp only [Act.put, List.getElem_toArray, List.getElem_cons_zero, List.getElem_cons_succ, List.setIfInBounds_toArray, List.set_cons_zero, List.set_cons_succ]
                refine wpAnyY_done (by kernel_rfl) ?_ _
                have ga := (G.rf w10).d
                obtain ⟨w11, hw11⟩ : ∃ w11, w11 = w10.drew := ⟨_, rfl⟩
                rw [← hw11] at ga ⊢
                clear hw11 hS
                have hG4 := hG3.t ga
                have hI11 := own_G HI10.out ga
                have c1 := HCE.out _ hI11 t htN
                have c2 := HCE.out _ hI11 m hmN
                have hBg := c1.2.2.2
                have lg := c1.2.2.1
                have z1 := c1.2.1
                have e1 := c1.1
                have hSk2 : ∀ W', G w11 W' → W'.cell? ⟨g, t, none⟩ = some (.int .i64 zbird) ∧ W'.cell? ⟨g, m, none⟩ = some (.int .i64 xm) ∧ g < W'.heap.size := fun W' hW => HSK.out _ (ga.t hW)
                have hI11' := hI11
                rw [← HLN.out] at hI11'
                have hI12 := own_int_put (i := t) (x := xm) hI11' (by rw [HLN.out]; exact htN)
                have hl2 : ((insAt O zbird t).set t xm).length = (insAt O zbird t).length := List.length_set ..
                rw [← hl2] at hI12
                have d2 := own_int_cell (i := m) hI12 (by rw [hl2, HLN.out]; exact hmN)
                have hI13 := own_int_put (i := m) (x := zbird) hI12 (by rw [hl2, HLN.out]; exact hmN)
                rw [hl2, HLN.out, HSTP.out] at hI13
                have HI13 := Lib.hid hI13
                have HD1 := Lib.hid d2.1
                have HD2 := Lib.hid d2.2.1
                have HS2 := Lib.hid hSk2
                clear c1 c2 hI11 hI11' hI12 hI13 hl2 d2
                go_upto_region 10 with fail
                refine wp_region_Y (S := fun W' => True) 17 18 rfl (by kernel_rfl) trivial (fun hS => ?_)
                have hST := hSk2 _ (G.rf _).d
                clear e1 z1 hSk2
                refine wpAnyY_take (i := 2) (v := ?_) rfl (by kernel_rfl) (by kernel_rfl) (by kernel_rfl) (by kernel_rfl) (fun _ _ _ h => h) (Or.inl ⟨by kernel_rfl, ?_⟩) hS ?_
                rotate_left
                · intro w' hSw; go_simp; with_reducible rfl
                try simp only [Act.put, List.getElem_toArray, List.getElem_cons_zero, List.getElem_cons_succ, List.setIfInBounds_toArray, List.set_cons_zero, List.set_cons_succ]
                refine wpAnyY_take (i := 3) (v := ?_) rfl (by kernel_rfl) (by kernel_rfl) (by kernel_rfl) (by kernel_rfl) (fun _ _ _ h => h) (Or.inl ⟨by kernel_rfl, ?_⟩) hS ?_
                rotate_left
                · intro w' hSw; go_simp; with_reducible rfl
                try simp only [Act.put, List.getElem_toArray, List.getElem_cons_zero, List.getElem_cons_succ, List.setIfInBounds_toArray, List.set_cons_zero, List.set_cons_succ]
                refine wpAnyY_take (i := 4) (v := ?_) rfl (by kernel_rfl) (by kernel_rfl) (by kernel_rfl) (by kernel_rfl) (fun _ _ _ h => h) (Or.inl ⟨by kernel_rfl, ?_⟩) hS ?_
                rotate_left
                · intro w' hSw; go_simp; with_reducible rfl
                try simp only [Act.put, List.getElem_toArray, List.getElem_cons_zero, List.getElem_cons_succ, List.setIfInBounds_toArray, List.set_cons_zero, List.set_cons_succ]
                refine wpAnyY_weak (S := fun W' => W'.cell? ⟨g, t, none⟩ = some (.int .i64 zbird) ∧ W'.cell? ⟨g, m, none⟩ = some (.int .i64 xm) ∧ g < W'.heap.size) (z := 15) _ _ _ _ ?_
                clear hS
                have hS := hST
                refine wpAnyY_take (i := 0) (v := ?_) rfl (by kernel_rfl) (by kernel_rfl) (by kernel_rfl) (by kernel_rfl) (fun _ _ _ h => h) (Or.inl ⟨by kernel_rfl, ?_⟩) hS ?_
                rotate_left
                · intro w' hSw; go_simp; with_reducible rfl
                try simp only [Act.put, List.getElem_toArray, List.getElem_cons_zero, List.getElem_cons_succ, List.setIfInBounds_toArray, List.set_cons_zero, List.set_cons_succ]
                refine wpAnyY_take (i := 1) (v := ?_) rfl (by kernel_rfl) (by kernel_rfl) (by kernel_rfl) (by kernel_rfl) (fun _ _ _ h => h) (Or.inl ⟨by kernel_rfl, ?_⟩) hS ?_
                rotate_left
                · intro w' hSw; go_simp; with_reducible rfl
                try simp only [Act.put, List.getElem_toArray, List.getElem_cons_zero, List.getElem_cons_succ, List.setIfInBounds_toArray, List.set_cons_zero, List.set_cons_succ]
                refine wpAnyY_take (i := 5) (v := ?_) rfl (by kernel_rfl) (by kernel_rfl) (by kernel_rfl) (by kernel_rfl) (fun _ _ _ h => h) (Or.inl ⟨by kernel_rfl, ?_⟩) hS ?_
                rotate_left
                · intro w' hSw; go_simp; with_reducible rfl
                try simp only [Act.put, List.getElem_toArray, List.getElem_cons_zero, List.getElem_cons_succ, List.setIfInBounds_toArray, List.set_cons_zero, List.set_cons_succ]
                refine wpAnyY_take (i := 6) (v := ?_) rfl (by kernel_rfl) (by kernel_rfl) (by kernel_rfl) (by kernel_rfl) (fun _ _ _ h => h) (Or.inl ⟨by kernel_rfl, ?_⟩) hS ?_
                rotate_left
                · intro w' hSw; go_simp; with_reducible rfl
                try simp only [Act.put, List.getElem_toArray, List.getElem_cons_zero, List.getElem_cons_succ, List.setIfInBounds_toArray, List.set_cons_zero, List.set_cons_succ]
                refine wpAnyY_take (i := 7) (v := ?_) rfl (by kernel_rfl) (by kernel_rfl) (by kernel_rfl) (by kernel_rfl) (fun _ _ _ h => h) (Or.inl ⟨by kernel_rfl, ?_⟩) hS ?_
                rotate_left
                · intro w' hSw; go_simp; with_reducible rfl
                try simp only [Act.put, List.getElem_toArray, List.getElem_cons_zero, List.getElem_cons_succ, List.setIfInBounds_toArray, List.set_cons_zero, List.set_cons_succ]
                refine wpAnyY_take (i := 8) (v := ?_) rfl (by kernel_rfl) (by kernel_rfl) (by kernel_rfl) (by kernel_rfl) (fun _ _ _ h => h) (Or.inl ⟨by kernel_rfl, ?_⟩) hS ?_
                rotate_left
                · intro w' hSw; go_simp; with_reducible rfl
                try simp only [Act.put, List.getElem_toArray, List.getElem_cons_zero, List.getElem_cons_succ, List.setIfInBounds_toArray, List.set_cons_zero, List.set_cons_succ]
                refine wpAnyY_take (i := 9) (v := ?_) rfl (by kernel_rfl) (by kernel_rfl) (by kernel_rfl) (by kernel_rfl) (fun _ _ _ h => h) (Or.inl ⟨by kernel_rfl, ?_⟩) hS ?_
                rotate_left
                · intro w' hSw; obtain ⟨s0, s1, s2⟩ := hSw; go_simp; with_reducible rfl
                try simp only [Act.put, List.getElem_toArray, List.getElem_cons_zero, List.getElem_cons_succ, List.setIfInBounds_toArray, List.set_cons_zero, List.set_cons_succ]
                refine wpAnyY_take (i := 10) (v := ?_) rfl (by kernel_rfl) (by kernel_rfl) (by kernel_rfl) (by kernel_rfl) (fun _ _ _ h => h) (Or.inl ⟨by kernel_rfl, ?_⟩) hS ?_
                rotate_left
                · intro w' hSw; go_simp; with_reducible rfl
                try simp only [Act.put, List.getElem_toArray, List.getElem_cons_zero, List.getElem_cons_succ, List.setIfInBounds_toArray, List.set_cons_zero, List.set_cons_succ]
                refine wpAnyY_take (i := 11) (v := ?_) rfl (by kernel_rfl) (by kernel_rfl) (by kernel_rfl) (by kernel_rfl) (fun _ _ _ h => h) (Or.inl ⟨by kernel_rfl, ?_⟩) hS ?_
                rotate_left
                · intro w' hSw; go_simp; with_reducible rfl
                try simp only [Act.put, List.getElem_toArray, List.getElem_cons_zero, List.getElem_cons_succ, List.setIfInBounds_toArray, List.set_cons_zero, List.set_cons_succ]
                refine wpAnyY_take (i := 12) (v := ?_) rfl (by kernel_rfl) (by kernel_rfl) (by kernel_rfl) (by kernel_rfl) (fun _ _ _ h => h) (Or.inl ⟨by kernel_rfl, ?_⟩) hS ?_
                rotate_left
                · intro w' hSw; go_simp; with_reducible rfl
                try simp only [Act.put, List.getElem_toArray, List.getElem_cons_zero, List.getElem_cons_succ, List.setIfInBounds_toArray, List.set_cons_zero, List.set_cons_succ]
                refine wpAnyY_take (i := 13) (v := ?_) rfl (by kernel_rfl) (by kernel_rfl) (by kernel_rfl) (by kernel_rfl) (fun _ _ _ h => h) (Or.inl ⟨by kernel_rfl, ?_⟩) hS ?_
                rotate_left
                · intro w' hSw; obtain ⟨s0, s1, s2⟩ := hSw; go_simp; with_reducible rfl
                try simp only [Act.put, List.getElem_toArray, List.getElem_cons_zero, List.getElem_cons_succ, List.setIfInBounds_toArray, List.set_cons_zero, List.set_cons_succ]
                refine wpAnyY_take (i := 14) (v := ?_) rfl (by kernel_rfl) (by kernel_rfl) (by kernel_rfl) (by kernel_rfl) (fun _ _ _ h => h) (Or.inl ⟨by kernel_rfl, ?_⟩) hS ?_
                rotate_left
                · intro w' hSw; go_simp; with_reducible rfl
                try simp only [Act.put, List.getElem_toArray, List.getElem_cons_zero, List.getElem_cons_succ, List.setIfInBounds_toArray, List.set_cons_zero, List.set_cons_succ]
                have e1 : w11.cell? ⟨g, t, none⟩ = some (.int .i64 zbird) := (HS2.out _ (G.rf _)).1
                have z1 := (HCE.out _ (own_G HI10.out ga) t htN).2.1
                clear hS hST
                refine wpAnyY_oneW (i := 15) (by kernel_rfl) rfl (by kernel_rfl) (by kernel_rfl) (fun K15 hK15 => ?_)
                go_simp
                refine hK15.out _ _ ?_
                clear hK15 e1 z1
                try simp only [Act.put, List.getElem_toArray, List.getElem_cons_zero, List.getElem_cons_succ, List.setIfInBounds_toArray, List.set_cons_zero, List.set_cons_succ]
                have lg2 : g < (w11.setCell ⟨g, t, none⟩ (.int .i64 xm)).heap.size := by rw [World.size_setCell]; exact lg
                refine wpAnyY_oneW (i := 16) (by kernel_rfl) rfl (by kernel_rfl) (by kernel_rfl) (fun K16 hK16 => ?_)
                go_simp
                refine hK16.out _ _ ?_
                clear hK16
                try simp only [Act.put, List.getElem_toArray, List.getElem_cons_zero, List.getElem_cons_succ, List.setIfInBounds_toArray, List.set_cons_zero, List.set_cons_succ]
                have e2 := HD1.out
                have z2 := HD2.out
                refine wpAnyY_oneW (i := 17) (by kernel_rfl) rfl (by kernel_rfl) (by kernel_rfl) (fun K17 hK17 => ?_)
                go_simp
                refine hK17.out _ _ ?_
                clear hK17 e2 z2
                try simp only [Act.put, List.getElem_toArray, List.getElem_cons_zero, List.getElem_cons_succ, List.setIfInBounds_toArray, List.set_cons_zero, List.set_cons_succ]
                refine wpAnyY_done (by kernel_rfl) ?_ _
                have gzz := ((hG4.s (p := ⟨g, t, none⟩) hBg (.int .i64 xm)).s (p := ⟨g, m, none⟩) hBg (.int .i64 zbird)).d
                have HFIN := Lib.hid (own_G HI13.out ((G.rf _).d))
                go_wp2_with fail
                go_roundw
                case rel => exact ⟨m, by have := HMT.out; omega, by go_num, HFIN.out, fun i h1 h2 => by
                  by_cases e : i = m
                  · subst e
                    rw [← HXM.out]
                    exact HBM.out
                  · exact HBI.out i (by have := HMT.out; omega) h2, gzz⟩
                case measure =>
                  have := HMT.out
                  simp [intOf] <;> omega
              · have hd : decide (zbird < xm) = false := decide_eq_false hbm
                have HBM : Hid (O.getD (t - 1) 0 ≤ zbird) := by
                  rw [Hid, show t - 1 = m by have := HMT.out; omega, ← HXM.out]
                  omega
                clear hbm
                go_upto_region 8 with fail
                refine wp_region_Y (S := fun W' => W'.cell? ⟨g, t, none⟩ = some (.int .i64 zbird) ∧ W'.cell? ⟨g, m, none⟩ = some (.int .i64 xm) ∧ g < W'.heap.size) 13 14 rfl (by kernel_rfl) (hSk _ (G.rf _).d) (fun hS => ?_)
                clear eb em hSk
                have ga := (G.rf w10).d
                refine wpAnyY_take (i := 0) (v := ?_) rfl (by kernel_rfl) (by kernel_rfl) (by kernel_rfl) (by kernel_rfl) (fun _ _ _ h => h) (Or.inl ⟨by kernel_rfl, ?_⟩) hS ?_
                rotate_left
                · intro w' hSw; go_simp; with_reducible rfl
                try simp only [Act.put, List.getElem_toArray, List.getElem_cons_zero, List.getElem_cons_succ, List.setIfInBounds_toArray, List.set_cons_zero, List.set_cons_succ]
                refine wpAnyY_take (i := 1) (v := ?_) rfl (by kernel_rfl) (by kernel_rfl) (by kernel_rfl) (by kernel_rfl) (fun _ _ _ h => h) (Or.inl ⟨by kernel_rfl, ?_⟩) hS ?_
                rotate_left
                · intro w' hSw; go_simp; with_reducible rfl
                try simp only [Act.put, List.getElem_toArray, List.getElem_cons_zero, List.getElem_cons_succ, List.setIfInBounds_toArray, List.set_cons_zero, List.set_cons_succ]
                refine wpAnyY_take (i := 2) (v := ?_) rfl (by kernel_rfl) (by kernel_rfl) (by kernel_rfl) (by kernel_rfl) (fun _ _ _ h => h) (Or.inl ⟨by kernel_rfl, ?_⟩) hS ?_
                rotate_left
                · intro w' hSw; go_simp; with_reducible rfl
                try simp only [Act.put, List.getElem_toArray, List.getElem_cons_zero, List.getElem_cons_succ, List.setIfInBounds_toArray, List.set_cons_zero, List.set_cons_succ]
                refine wpAnyY_take (i := 3) (v := ?_) rfl (by kernel_rfl) (by kernel_rfl) (by kernel_rfl) (by kernel_rfl) (fun _ _ _ h => h) (Or.inl ⟨by kernel_rfl, ?_⟩) hS ?_
                rotate_left
                · intro w' hSw; go_simp; with_reducible rfl
                try simp only [Act.put, List.getElem_toArray, List.getElem_cons_zero, List.getElem_cons_succ, List.setIfInBounds_toArray, List.set_cons_zero, List.set_cons_succ]
                refine wpAnyY_take (i := 4) (v := ?_) rfl (by kernel_rfl) (by kernel_rfl) (by kernel_rfl) (by kernel_rfl) (fun _ _ _ h => h) (Or.inl ⟨by kernel_rfl, ?_⟩) hS ?_
                rotate_left
                · intro w' hSw; go_simp; with_reducible rfl
                try simp only [Act.put, List.getElem_toArray, List.getElem_cons_zero, List.getElem_cons_succ, List.setIfInBounds_toArray, List.set_cons_zero, List.set_cons_succ]
                refine wpAnyY_take (i := 5) (v := ?_) rfl (by kernel_rfl) (by kernel_rfl) (by kernel_rfl) (by kernel_rfl) (fun _ _ _ h => h) (Or.inl ⟨by kernel_rfl, ?_⟩) hS ?_
                rotate_left
                · intro w' hSw; go_simp; with_reducible rfl
                try simp only [Act.put, List.getElem_toArray, List.getElem_cons_zero, List.getElem_cons_succ, List.setIfInBounds_toArray, List.set_cons_zero, List.set_cons_succ]
                refine wpAnyY_take (i := 6) (v := ?_) rfl (by kernel_rfl) (by kernel_rfl) (by kernel_rfl) (by kernel_rfl) (fun _ _ _ h => h) (Or.inl ⟨by kernel_rfl, ?_⟩) hS ?_
                rotate_left
                · intro w' hSw; obtain ⟨s0, s1, s2⟩ := hSw; go_simp; with_reducible rfl
                try simp only [Act.put, List.getElem_toArray, List.getElem_cons_zero, List.getElem_cons_succ, List.setIfInBounds_toArray, List.set_cons_zero, List.set_cons_succ]
                refine wpAnyY_take (i := 7) (v := ?_) rfl (by kernel_rfl) (by kernel_rfl) (by kernel_rfl) (by kernel_rfl) (fun _ _ _ h => h) (Or.inl ⟨by kernel_rfl, ?_⟩) hS ?_
                rotate_left
                · intro w' hSw; go_simp; with_reducible rfl
                try simp only [Act.put, List.getElem_toArray, List.getElem_cons_zero, List.getElem_cons_succ, List.setIfInBounds_toArray, List.set_cons_zero, List.set_cons_succ]
                refine wpAnyY_take (i := 8) (v := ?_) rfl (by kernel_rfl) (by kernel_rfl) (by kernel_rfl) (by kernel_rfl) (fun _ _ _ h => h) (Or.inl ⟨by kernel_rfl, ?_⟩) hS ?_
                rotate_left
                · intro w' hSw; go_simp; with_reducible rfl
                try simp only [Act.put, List.getElem_toArray, List.getElem_cons_zero, List.getElem_cons_succ, List.setIfInBounds_toArray, List.set_cons_zero, List.set_cons_succ]
                refine wpAnyY_take (i := 9) (v := ?_) rfl (by kernel_rfl) (by kernel_rfl) (by kernel_rfl) (by kernel_rfl) (fun _ _ _ h => h) (Or.inl ⟨by kernel_rfl, ?_⟩) hS ?_
                rotate_left
                · intro w' hSw; go_simp; with_reducible rfl
                try simp only [Act.put, List.getElem_toArray, List.getElem_cons_zero, List.getElem_cons_succ, List.setIfInBounds_toArray, List.set_cons_zero, List.set_cons_succ]
                refine wpAnyY_take (i := 10) (v := ?_) rfl (by kernel_rfl) (by kernel_rfl) (by kernel_rfl) (by kernel_rfl) (fun _ _ _ h => h) (Or.inl ⟨by kernel_rfl, ?_⟩) hS ?_
                rotate_left
                · intro w' hSw; go_simp; with_reducible rfl
                try simp only [Act.put, List.getElem_toArray, List.getElem_cons_zero, List.getElem_cons_succ, List.setIfInBounds_toArray, List.set_cons_zero, List.set_cons_succ]
                refine wpAnyY_take (i := 11) (v := ?_) rfl (by kernel_rfl) (by kernel_rfl) (by kernel_rfl) (by kernel_rfl) (fun _ _ _ h => h) (Or.inl ⟨by kernel_rfl, ?_⟩) hS ?_
                rotate_left
                · intro w' hSw; obtain ⟨s0, s1, s2⟩ := hSw; go_simp; with_reducible rfl
                try simp only [Act.put, List.getElem_toArray, List.getElem_cons_zero, List.getElem_cons_succ, List.setIfInBounds_toArray, List.set_cons_zero, List.set_cons_succ]
                refine wpAnyY_take (i := 12) (v := ?_) rfl (by kernel_rfl) (by kernel_rfl) (by kernel_rfl) (by kernel_rfl) (fun _ _ _ h => h) (Or.inl ⟨by kernel_rfl, ?_⟩) hS ?_
                rotate_left
                · intro w' hSw; go_simp; with_reducible rfl
                try simp only [Act.put, List.getElem_toArray, List.getElem_cons_zero, List.getElem_cons_succ, List.setIfInBounds_toArray, List.set_cons_zero, List.set_cons_succ]
                refine wpAnyY_oneW (i := 13) (by kernel_rfl) rfl (by kernel_rfl) (by kernel_rfl) (fun K13 hK13 => ?_)
                go_simp
                refine hK13.out _ _ ?_
                clear hK13
                try simp only [Act.put, List.getElem_toArray, List.getElem_cons_zero, List.getElem_cons_succ, List.setIfInBounds_toArray, List.set_cons_zero, List.set_cons_succ]
                refine wpAnyY_done (by kernel_rfl) ?_ _
                have HFIN := Lib.hid (own_G HI10.out ga)
                have gzz := hG3.t ga
                clear hS
                go_wp2_with fail
                go_roundw
                case rel => exact ⟨k + 1, insAt O zbird t, by omega, by go_num, by rw [HLN.out]; exact HFIN.out, by rw [← EB.out]; exact HNA.out.put hlt (EZ.out.trans HIL.out) ht (by rw [EB.out]; exact HBI.out) (.inr (by rw [EB.out]; exact HBM.out)), by rw [HLN.out, HN.out]; omega, gzz⟩
                case measure => simp [intOf] <;> omega
    · obtain rfl : k = r.racers.length := by omega
      have hki : ¬ ((r.racers.length : Nat) : Int) < r.racers.length := by omega
      have e := HNA.out.all
      have HE := Lib.hid e
      have gz := g0.t hG
      have HF : Hid (wo.ownsRow w.heap.size 3 1 u5 (namedL r p).length (iv (namedL r p))) := by
        rw [Hid, ← HE.out]
        exact own_weaken HO.out g0.size
      clear e
      go_wp2_with fail
      go_ret
      exact ⟨gz, _, rfl, HF.out⟩
end Go.Proofs.YtnkmcoljijmgpaaGreat

set_option linter.unusedSimpArgs false
set_option linter.unusedVariables false
namespace Go.Proofs.YtnkmcoljijmgpaaGreat
open Go.RowKit Go.Shelf Go.Sort Go.Maps
attribute [local go_sem] Oper.semAt_some
/-- what the law asks of one pool -/
structure CenP (AL : List Pz) (NL : List Int) (stake T C L R : Int) : Prop where
  len : NL.length = AL.length
  le : AL.length ≤ 12
  bird : ∀ i, i < AL.length → NL.getD i 0 = (AL.getD i default).bird
  won : ∀ i, i < AL.length → 0 ≤ (AL.getD i default).won ∧ (AL.getD i default).won ≤ 1200001
  back : ∀ i, i < AL.length → 0 ≤ (AL.getD i default).back ∧ (AL.getD i default).back ≤ 1200001
  t : T = stake * AL.length
  c : 0 ≤ C ∧ C ≤ T
  tb : 0 ≤ T ∧ T ≤ 1200000
  sum : T = C + (AL.map Pz.won).sum + (AL.map Pz.back).sum
  l : L = T - C
  r : R = (AL.map Pz.back).sum
  rb : 0 ≤ R ∧ R ≤ 1200000
/-- what the law asks of the purses -/
structure CenQ (QL : List Pu) (n : Nat) (TS PS : Int) : Prop where
  len : QL.length ≤ n
  asc : ∀ i, i + 1 < QL.length → (QL.getD i default).owner < (QL.getD (i + 1) default).owner
  st : ∀ i, i < QL.length → 0 ≤ (QL.getD i default).staked ∧ (QL.getD i default).staked ≤ 300000000
  pd : ∀ i, i < QL.length → 0 ≤ (QL.getD i default).paid ∧ (QL.getD i default).paid ≤ 300000000
  ts : (QL.map Pu.staked).sum = TS
  ps : (QL.map Pu.paid).sum = PS
theorem naQ0 (r : Ra) (p : Int) (n : Nat) (w : World) (h : r.At w) (hn : (namedL r p).length = n) : Calls Tryz.prog 16 #[.agg r.v, .int .i64 p] w fun e w' => G w w' ∧ ∃ a c, e = .returned (.slice a n c) ∧ IntsAt w' a (namedL r p) := by
  refine (Named_any r p w h h.nr).mono ?_
  rintro e w' ⟨hG, v, rfl, ho⟩
  obtain ⟨a, c, rfl, hI⟩ := own_ints ho
  exact ⟨hG, a, c, by rw [hn], hI⟩
end Go.Proofs.YtnkmcoljijmgpaaGreat

set_option linter.unusedSimpArgs false
set_option linter.unusedVariables false
namespace Go.Proofs.YtnkmcoljijmgpaaGreat
open Go.RowKit Go.Shelf Go.Sort Go.Maps
attribute [local go_sem] Oper.semAt_some
/-- the copy, with other racers in its row, and other protests -/
theorem cp_at3 {W : World} {B1 B2 : Nat} {r o : Ra} {L : List Rc} {ta : Option Addr} {tc : Nat} {ps : List Int} (hAT : r.At W) (hrr : W.ownsRow B1 60 5 (.slice o.ra L.length o.rc) L.length (rcV L)) (hL : ∀ y ∈ L, IntsAt W y.pa y.pools ∧ y.pools.length ≤ 1000) (hlen : L.length = r.racers.length)
    (hpr : W.ownsRow B1 42 6 (.slice o.pa o.pools.length o.pc) o.pools.length (cv Po.v o.pools)) (hpt : ∀ y ∈ o.pools, W.ownsRow B1 3 1 (.slice y.ta y.table.length y.tc) y.table.length (iv y.table))
    (htr : W.ownsRow B2 3 1 (.slice ta ps.length tc) ps.length (iv ps)) (hep : o.pools.map poP = r.pools.map poP) (hps : ps.length ≤ 1000) :
    (⟨o.ra, o.rc, L, o.pa, o.pc, o.pools, ta, tc, ps⟩ : Ra).At W := by
  have hl : o.pools.length = r.pools.length := by
    have e := congrArg List.length hep
    simpa using e
  have hints : ∀ {B : Nat} {a : Option Addr} {c : Nat} {l : List Int}, W.ownsRow B 3 1 (.slice a l.length c) l.length (iv l) → IntsAt W a l := fun {B a c l} ho => by
    obtain ⟨a', c', e, hI⟩ := own_ints ho
    injection e with e1 _ _
    rw [e1]
    exact hI
  have hmem : ∀ {i : Nat}, i < L.length → L.getD i default ∈ L := fun {i} hi => by
    rw [List.getD_eq_getElem?_getD, List.getElem?_eq_getElem hi]
    exact List.getElem_mem hi
  have hmemP : ∀ {i : Nat}, i < o.pools.length → o.pools.getD i default ∈ o.pools := fun {i} hi => by
    rw [List.getD_eq_getElem?_getD, List.getElem?_eq_getElem hi]
    exact List.getElem_mem hi
  refine ⟨⟨(own_fn hrr).2, fun i hi => (hL _ (hmem hi)).1⟩, ⟨?_, fun i hi => hints (hpt _ (hmemP hi))⟩, hints htr, by show L.length ≤ 1000; rw [hlen]; exact hAT.nr, own_cap hrr, own_cap htr, by show o.pools.length ≤ 1000; rw [hl]; exact hAT.np, hps, fun i hi => (hL _ (hmem hi)).2, fun i hi => ?_⟩
  · obtain ⟨a', c', e, hR⟩ := own_rowE (v := Po.v) (fun x => rfl) hpr
    injection e with e1 _ _
    show RowE Po.v 6 W o.pa o.pools
    rw [e1]
    exact hR
  · have e := congrArg (fun m => m[i]?) hep
    simp only [List.getElem?_map] at e
    have hi' : i < o.pools.length := hi
    have hi2 : i < r.pools.length := by omega
    have h2 := hAT.nb i hi2
    rw [List.getD_eq_getElem?_getD, List.getElem?_eq_getElem hi2] at h2
    show (o.pools.getD i default).table.length ≤ 1000
    rw [List.getD_eq_getElem?_getD, List.getElem?_eq_getElem hi']
    rw [List.getElem?_eq_getElem hi', List.getElem?_eq_getElem hi2] at e
    simp only [Option.map_some, Option.some.injEq] at e
    have e3 : (o.pools[i]).table = (r.pools[i]).table := congrArg (fun q => q.2.2.2.1) e
    show (o.pools[i]).table.length ≤ 1000
    rw [e3]
    exact h2
theorem named_q {r : Ra} {p b : Int} (hq : qE r p [] = 0) (h : inL (namedL r p) b = true) : qE r p [b] = 0 := by
  obtain ⟨h1, h2⟩ := qE_parts hq
  unfold qE
  rw [if_pos h1, if_pos h2, if_pos]
  refine allU_iff.2 fun i hi => ?_
  have hi0 : i = 0 := by simpa using hi
  subst hi0
  show hasB (runners r p) b = true
  rw [hasB_mem]
  unfold namedL at h
  obtain ⟨x, hx, e⟩ := List.mem_map.1 (inL_iff.1 h)
  exact ⟨x, hx, e⟩
end Go.Proofs.YtnkmcoljijmgpaaGreat
namespace Go.Proofs.YtnkmcoljijmgpaaGreat
open Go.RowKit Go.Shelf Go.ChangeShapes Go.WideShapes Go.ChangeAt
end Go.Proofs.YtnkmcoljijmgpaaGreat

set_option linter.unusedSimpArgs false
set_option linter.unusedVariables false
namespace Go.Proofs.YtnkmcoljijmgpaaGreat
open Go.RowKit Go.Shelf Go.Sort Go.Maps
attribute [local go_sem] Oper.semAt_some
theorem racer_at {l : List Rc} {b : Int} (h : hasB l b = true) : ∃ q : Nat, q < l.length ∧ (l.getD q default).bird = b ∧ idxR l b = q := by
  rcases first_or (p := fun j => (l.getD j default).bird = b) l.length with h1 | ⟨k, h1, h2, h3⟩
  · obtain ⟨x, hx, e⟩ := hasB_mem.1 h
    obtain ⟨j, hj, rfl⟩ := List.mem_iff_getElem.1 hx
    refine absurd ?_ (h1 j hj)
    rw [List.getD_eq_getElem?_getD, List.getElem?_eq_getElem hj]
    exact e
  · exact ⟨k, h1, h2, idxR_some h1 h2 h3⟩
theorem inL_snoc (S : List Int) (b y : Int) : inL (S ++ [b]) y = (inL S y || (y == b)) := by
  rw [Bool.eq_iff_iff, inL_iff, Bool.or_eq_true, inL_iff, List.mem_append, List.mem_singleton]
  simp
theorem out_set {l : List Rc} (hu : Uniq l) {q : Nat} (hq : q < l.length) {S : List Int} {b : Int} (hb : (l.getD q default).bird = b) : (l.map (outS S)).set q (outS (S ++ [b]) (l.getD q default)) = l.map (outS (S ++ [b])) := by
  have hg : l.getD q default = l[q] := by simp [List.getD_eq_getElem?_getD, hq]
  rw [hg] at hb ⊢
  apply List.ext_getElem?
  intro j
  rw [List.getElem?_set, List.length_map, List.getElem?_map, List.getElem?_map]
  by_cases e : q = j
  · subst e
    rw [if_pos rfl, if_pos hq, List.getElem?_eq_getElem hq]
    rfl
  · rw [if_neg e]
    by_cases hj : j < l.length
    · rw [List.getElem?_eq_getElem hj]
      have hne : l[j].bird ≠ b := by
        have h4 := List.pairwise_iff_getElem.1 hu
        rcases Nat.lt_trichotomy q j with h | h | h
        · exact fun e2 => h4 q j hq hj h (by rw [hb, e2])
        · exact absurd h e
        · exact fun e2 => h4 j q hj hq h (by rw [hb, e2])
      show some (outS S l[j]) = some (outS (S ++ [b]) l[j])
      have e3 : inL (S ++ [b]) l[j].bird = inL S l[j].bird := by
        rw [inL_snoc]
        have : (l[j].bird == b) = false := by simpa using hne
        rw [this, Bool.or_false]
      unfold outS
      rw [e3]
    · rw [List.getElem?_eq_none (by omega)]
      rfl
theorem out_in {S : List Int} {x : Rc} (h : inL S x.bird = true) : outS S x = ⟨x.bird, x.owner, 0, 0, x.pa, x.pc, x.pools⟩ := by
  unfold outS
  rw [h]
  rfl
theorem case_row {W : World} {B c g q : Nat} {a : Option Addr} {l : List Rc} {S : List Int} {b : Int} (h : W.ownsRow B 60 5 (.slice a l.length c) l.length (rcV (l.map (outS S)))) (ha : a = some ⟨g, 0, none⟩) (hu : Uniq l) (hq : q < l.length) (hb : (l.getD q default).bird = b) :
    ((W.setCell ⟨g, q * 5 + 2, none⟩ (.int .i64 0)).setCell ⟨g, q * 5 + 3, none⟩ (.int .i64 0)).ownsRow B 60 5 (.slice a l.length c) l.length (rcV (l.map (outS (S ++ [b])))) := by
  have hm : (l.map (outS S)).length = l.length := List.length_map ..
  rw [← hm] at h
  have hq' : q < (l.map (outS S)).length := by omega
  obtain ⟨z, hz⟩ : ∃ z, z = (l.map (outS S)).getD q default := ⟨_, rfl⟩
  have hz2 : z = outS S (l.getD q default) := by
    rw [hz, List.getD_eq_getElem?_getD, List.getElem?_map, List.getElem?_eq_getElem hq, List.getD_eq_getElem?_getD, List.getElem?_eq_getElem hq]
    rfl
  have r1 := row_put1 (y := ⟨z.bird, z.owner, 0, z.day, z.pa, z.pc, z.pools⟩) (j := 2) (v := .int .i64 0) h ha hq' (by decide) (by rw [← hz]; rfl)
  obtain ⟨y1, hy1⟩ : ∃ y1 : Rc, y1 = ⟨z.bird, z.owner, 0, z.day, z.pa, z.pc, z.pools⟩ := ⟨_, rfl⟩
  rw [← hy1] at r1
  have e : ((l.map (outS S)).set q y1).length = (l.map (outS S)).length := List.length_set ..
  rw [← e] at r1
  have hq2 : q < ((l.map (outS S)).set q y1).length := by omega
  have eg : ((l.map (outS S)).set q y1).getD q default = y1 := by rw [getD_setR hq', if_pos rfl]
  have hin : inL (S ++ [b]) (l.getD q default).bird = true := by rw [inL_snoc, hb]; simp
  have r2 := row_put1 (y := outS (S ++ [b]) (l.getD q default)) (j := 3) (v := .int .i64 0) r1 ha hq2 (by decide) (by
    rw [eg, hy1, out_in hin, hz2]
    unfold outS
    split <;> rfl)
  rw [List.set_set, out_set hu hq hb, e, hm] at r2
  exact r2
/-- the copy with some birds struck and no protests, as it lies -/
theorem case_at {W4 W5 : World} {B1 : Nat} {r o : Ra} {S : List Int} (hAT : r.At W5) {m : Nat} (hF : Fr (fun i => o.ra = some ⟨i, 0, none⟩ ∨ i = m) W4 W5) (hm : m < B1) (hrr4 : W4.ownsRow B1 60 5 (.slice o.ra o.racers.length o.rc) o.racers.length (rcV o.racers))
    (hrr : W5.ownsRow B1 60 5 (.slice o.ra o.racers.length o.rc) o.racers.length (rcV (o.racers.map (outS S))))
    (hrp : ∀ y ∈ o.racers, W4.ownsRow B1 3 1 (.slice y.pa y.pools.length y.pc) y.pools.length (iv y.pools))
    (hpr : W4.ownsRow B1 42 6 (.slice o.pa o.pools.length o.pc) o.pools.length (cv Po.v o.pools)) (hpt : ∀ y ∈ o.pools, W4.ownsRow B1 3 1 (.slice y.ta y.table.length y.tc) y.table.length (iv y.table))
    (her : o.racers.map rcP = r.racers.map rcP) (hep : o.pools.map poP = r.pools.map poP) :
    (⟨o.ra, o.rc, o.racers.map (outS S), o.pa, o.pc, o.pools, none, 0, []⟩ : Ra).At W5 := by
  have hlo : o.racers.length = r.racers.length := by
    have e := congrArg List.length her
    simpa using e
  have hne : ∀ {T z n : Nat} {v : Value} {xs : List Value}, W4.ownsRow B1 T z v n xs → T ≠ 60 → ∀ g', v.ownBlock = some g' → ¬ (o.ra = some ⟨g', 0, none⟩ ∨ g' = m) := fun {T z n v xs} hv hT g' hg e => by
    rcases e with e | e
    rotate_left
    · have := own_base hv hg
      omega
    rcases own_own hv hrr4 hT with h | h
    · rw [hg] at h
      cases h
    · exact h (hg.trans (by rw [e]; rfl))
  have hrr' : W5.ownsRow B1 60 5 (.slice o.ra (o.racers.map (outS S)).length o.rc) (o.racers.map (outS S)).length (rcV (o.racers.map (outS S))) := by rw [List.length_map]; exact hrr
  refine cp_at3 (o := o) (B2 := 0) hAT hrr' (fun y hy => ?_) (by rw [List.length_map, hlo]) (own_Fr hpr hF (hne hpr (by decide))) (fun y hy => own_Fr (hpt y hy) hF (hne (hpt y hy) (by decide))) (World.ownsRow_nil _ _ _ _) hep (by simp)
  obtain ⟨x, hx, rfl⟩ := List.mem_map.1 hy
  have e1 : (outS S x).pa = x.pa := by unfold outS; split <;> rfl
  have e2 : (outS S x).pools = x.pools := by unfold outS; split <;> rfl
  rw [e1, e2]
  have h1 := own_Fr (hrp x hx) hF (hne (hrp x hx) (by decide))
  obtain ⟨a', c', e, hI⟩ := own_ints h1
  injection e with e3 _ _
  refine ⟨by rw [e3]; exact hI, ?_⟩
  obtain ⟨z, hz, e4⟩ := mem_P her hx
  obtain ⟨i, hi, rfl⟩ := List.mem_iff_getElem.1 hz
  have h5 := hAT.nq i hi
  rw [List.getD_eq_getElem?_getD, List.getElem?_eq_getElem hi] at h5
  have e5 : (r.racers[i]).pools = x.pools := congrArg (fun q => q.2.2.2.2) e4
  rw [← e5]
  exact h5
def CasePost (r : Ra) (n : Nat) (w : World) (e : Ending) (w' : World) : Prop := G w w' ∧ ∃ o : Ra, e = .returned (.agg #[.slice o.ra o.racers.length o.rc, .slice o.pa o.pools.length o.pc, .slice none 0 0]) ∧ o.racers.map rcP = r.racers.map rcP ∧ o.pools.map poP = r.pools.map poP ∧ o.protests = r.protests ∧ (⟨o.ra, o.rc, o.racers.map (outS (stOf r.protests n)), o.pa, o.pc, o.pools, none, 0, []⟩ : Ra).At w'
theorem res30 (tmps : Array Value) (w : World) (g : Nat) (a0 a1 a2 : Option Addr) (k0 k1 k2 c0' c1' c2' : Nat) (h : tmps.getD 4 undef = .pointer (some ⟨g, 0, none⟩)) (hB : Blk w g 26 #[.slice a0 k0 c0', .slice a1 k1 c1', .slice a2 k2 c2']) :
    (results Tryz.f30 tmps).run Tryz.prog w = .ok (.agg #[.slice a0 k0 c0', .slice a1 k1 c1', .slice a2 k2 c2']) w := by
  have c0 := hB.cell 0
  have c1 := hB.cell 1
  have c2 := hB.cell 2
  clear hB
  have hr : Tryz.f30.results = #[.cell 4 26] := rfl
  have h' : tmps[4]?.getD undef = .pointer (some ⟨g, 0, none⟩) := by simpa using h
  simp only [results, hr]
  go_simp
set_option maxRecDepth 100000 in
set_option maxHeartbeats 8000000 in
theorem Case_any (r : Ra) (n : Nat) (w : World) (h : r.At w) (hn : r.Nil) (hr : raceB r = true) : Calls Tryz.prog 30 #[.agg r.v, .int .i64 (n : Nat)] w (CasePost r n w) := by
  have HP : Hid (∀ (o : Ra) w', G w w' → o.racers.map rcP = r.racers.map rcP → o.pools.map poP = r.pools.map poP → o.protests = r.protests → (⟨o.ra, o.rc, o.racers.map (outS (stOf r.protests n)), o.pa, o.pc, o.pools, none, 0, []⟩ : Ra).At w' → CasePost r n w (.returned (.agg #[.slice o.ra o.racers.length o.rc, .slice o.pa o.pools.length o.pc, .slice none 0 0])) w') := fun o w' a b c d e => ⟨a, o, rfl, b, c, d, e⟩
  generalize CasePost r n w = PP at *
  have hrv : r.v = #[.slice r.ra r.racers.length r.rc, .slice r.pa r.pools.length r.pc, .slice r.ta r.protests.length r.tc] := rfl
  have HAT := Lib.hid h
  have HCP := Lib.hid (fun (W : World) (hW : G w W) => (show Calls Tryz.prog 24 #[.agg r.v] W (fun e w' => G W w' ∧ ∃ o : Ra, e = .returned (.agg #[.slice o.ra o.racers.length o.rc, .slice o.pa o.pools.length o.pc, .slice o.ta o.protests.length o.tc]) ∧ CpIs w' W.heap.size r o) from Copy_any r W (h.keep hW) hn))
  have HRI := Lib.hid (fun (W : World) (hW : G w W) (b : Int) => racer_idx r.racers r.ra r.rc (.slice r.pa r.pools.length r.pc) (.slice r.ta r.protests.length r.tc) b W ((h.keep hW).rs.row) h.nr)
  rw [hrv] at HCP ⊢
  have hnp := race_np hr
  have h12 := (uniq_of (race_parts hr)).1
  have HRB := Lib.hid hr
  clear h hn hr hrv
  have g0 : G w ((w.alloc (.cells #[.slice r.ra r.racers.length r.rc, .slice r.pa r.pools.length r.pc, .slice r.ta r.protests.length r.tc] 26)).alloc (.cells #[.slice none 0 0, .slice none 0 0, .slice none 0 0] 26)) := ((G.rf _).a _).a _
  have b0 : Blk ((w.alloc (.cells #[.slice r.ra r.racers.length r.rc, .slice r.pa r.pools.length r.pc, .slice r.ta r.protests.length r.tc] 26)).alloc (.cells #[.slice none 0 0, .slice none 0 0, .slice none 0 0] 26)) w.heap.size 26 #[.slice r.ra r.racers.length r.rc, .slice r.pa r.pools.length r.pc, .slice r.ta r.protests.length r.tc] := (Blk.new _ _ _).alloc _
  have b1 : Blk ((w.alloc (.cells #[.slice r.ra r.racers.length r.rc, .slice r.pa r.pools.length r.pc, .slice r.ta r.protests.length r.tc] 26)).alloc (.cells #[.slice none 0 0, .slice none 0 0, .slice none 0 0] 26)) (w.heap.size + 1) 26 #[.slice none 0 0, .slice none 0 0, .slice none 0 0] := Blk.new1 _ _ _ _
  go_enter Tryz.func30, Tryz.ntmps30
  have m0 := b0.cell 0
  have m1 := b0.cell 1
  have m2 := b0.cell 2
  have l0 := b0.lt
  go_upto_region 2 with (go_at_call 24; refine (HCP.out _ g0).mono ?_; rintro e w3 ⟨hG3, o, rfl, hCP⟩)
  clear m0 m1 m2 l0
  have hlo : o.racers.length = r.racers.length := by
    have e := congrArg List.length hCP.er
    simpa using e
  have g3 := g0.t hG3
  have b03 := (b0.keep hG3).alloc (.cells #[.slice o.ra o.racers.length o.rc, .slice o.pa o.pools.length o.pc, .slice o.ta o.protests.length o.tc] 26)
  have b13 := (b1.keep hG3).alloc (.cells #[.slice o.ra o.racers.length o.rc, .slice o.pa o.pools.length o.pc, .slice o.ta o.protests.length o.tc] 26)
  have bK : Blk (w3.alloc (.cells #[.slice o.ra o.racers.length o.rc, .slice o.pa o.pools.length o.pc, .slice o.ta o.protests.length o.tc] 26)) w3.heap.size 26 #[.slice o.ra o.racers.length o.rc, .slice o.pa o.pools.length o.pc, .slice o.ta o.protests.length o.tc] := Blk.new _ _ _
  have g4 := g3.a (.cells #[.slice o.ra o.racers.length o.rc, .slice o.pa o.pools.length o.pc, .slice o.ta o.protests.length o.tc] 26)
  have ga3 : G w3 (w3.alloc (.cells #[.slice o.ra o.racers.length o.rc, .slice o.pa o.pools.length o.pc, .slice o.ta o.protests.length o.tc] 26)) := (G.rf _).a _
  have hKl : w.heap.size + 1 < w3.heap.size := (b1.keep hG3).lt
  obtain ⟨B, hB⟩ : ∃ B, B = ((w.alloc (.cells #[.slice r.ra r.racers.length r.rc, .slice r.pa r.pools.length r.pc, .slice r.ta r.protests.length r.tc] 26)).alloc (.cells #[.slice none 0 0, .slice none 0 0, .slice none 0 0] 26)).heap.size := ⟨_, rfl⟩
  have hB1 : w.heap.size + 1 < B := by rw [hB]; exact b1.lt
  rw [← hB] at hCP
  clear hB
  have HCR := Lib.hid (own_G hCP.rr ga3)
  have HRP := Lib.hid (fun y hy => own_G (hCP.rp y hy) ga3)
  have HPR := Lib.hid (own_G hCP.pr ga3)
  have HPT := Lib.hid (fun y hy => own_G (hCP.pt y hy) ga3)
  have HER := Lib.hid hCP.er
  have HEP := Lib.hid hCP.ep
  have HET := Lib.hid hCP.et
  clear hCP hG3 b0 b1 g0 g3 ga3 HCP
  obtain ⟨K, hK⟩ : ∃ K, K = w3.heap.size := ⟨_, rfl⟩
  change Code.wp _ _ _ _ (w3.alloc (.cells #[.slice o.ra o.racers.length o.rc, .slice o.pa o.pools.length o.pc, .slice o.ta o.protests.length o.tc] 26))
  rw [← hK] at bK hKl ⊢
  clear hK
  generalize w3.alloc (.cells #[.slice o.ra o.racers.length o.rc, .slice o.pa o.pools.length o.pc, .slice o.ta o.protests.length o.tc] 26) = W4 at *
  have n2 := bK.cell 2
  have z2 := bK.frozen 2
  have ln := bK.lt
  have HLO := Lib.hid hlo
  clear hlo
  go_upto_region 3 with fail
  clear n2 z2 ln
  have hst : ∀ T z v n' xs, (26 : Nat) ≠ T → W4.ownsRow B T z v n' xs → (W4.setCell ⟨K, 2, none⟩ (.slice none 0 0)).ownsRow B T z v n' xs := fun T z v n' xs hT hv => hv.kept (grownBy_set _ _ _) (.inr (own_ne hv bK hT).symm)
  have g5 := g4.s (p := ⟨K, 2, none⟩) (show w.heap.size ≤ K by omega) (.slice none 0 0)
  have bK5 := bK.set_ 2 (.slice none 0 0)
  simp only [List.setIfInBounds_toArray, List.set_cons_zero, List.set_cons_succ] at bK5
  have hF5 : Fr (fun i => i = K) W4 (W4.setCell ⟨K, 2, none⟩ (.slice none 0 0)) := (Fr.rf (fun i => i = K) W4).s (p := ⟨K, 2, none⟩) (.inl rfl) _
  have b05 := hF5.blk b03 (fun e => by omega)
  have b15 := hF5.blk b13 (fun e => by omega)
  have HCR5 := Lib.hid (hst _ _ _ _ _ (by decide) HCR.out)
  have HRP5 := Lib.hid (fun y hy => hst _ _ _ _ _ (by decide) (HRP.out y hy))
  have HPR5 := Lib.hid (hst _ _ _ _ _ (by decide) HPR.out)
  have HPT5 := Lib.hid (fun y hy => hst _ _ _ _ _ (by decide) (HPT.out y hy))
  generalize W4.setCell ⟨K, 2, none⟩ (.slice none 0 0) = W5 at *
  have HB0 := Lib.hid b05
  have HB1 := Lib.hid b15
  have HBK := Lib.hid bK5
  have hge : ∀ i, o.ra = some ⟨i, 0, none⟩ → B ≤ i := fun i hi => own_base HCR5.out (by rw [hi]; rfl)
  have hneK : ∀ i, o.ra = some ⟨i, 0, none⟩ → i ≠ K := fun i hi e => own_ne HCR5.out HBK.out (by decide) (by rw [hi, e]; rfl)
  have HGE := Lib.hid hge
  have HNK := Lib.hid hneK
  obtain ⟨ps, hps⟩ : ∃ ps, ps = r.protests := ⟨_, rfl⟩
  have hand := i64_and1
  clear hst bK bK5 b03 b13 b05 b15 hF5 HCR HRP HPR HPT g4 hge hneK
  go_wp2_with fail
  go_loopw [6] (fun i wr => ∃ k : Nat, k ≤ r.protests.length ∧ i = .int .i64 k ∧ Hid (wr.ownsRow B 60 5 (.slice o.ra o.racers.length o.rc) o.racers.length (rcV (o.racers.map (outS (stTo r.protests n k))))) ∧ Hid (Fr (fun i => o.ra = some ⟨i, 0, none⟩) W5 wr)) (fun i _ => r.protests.length - (intOf i).toNat)
  case atStart => exact ⟨0, Nat.zero_le _, rfl, by
    show World.ownsRow _ _ _ _ _ _ (rcV (o.racers.map (outS [])))
    rw [show o.racers.map (outS []) = o.racers from by rw [show outS [] = id from funext outS_nil, List.map_id]]
    exact HCR5.out, Fr.rf _ _⟩
  case round =>
    obtain ⟨k, hk, rfl, HRW, HFW⟩ := hrel
    obtain ⟨wo, rfl⟩ : ∃ wo, wo = wr := ⟨_, rfl⟩
    have boK := HFW.out.blk HBK.out (fun e => HNK.out _ e rfl)
    have bo0 := HFW.out.blk HB0.out (fun e => by have := HGE.out _ e; omega)
    have gwo : G w wo := ((G.fr (R := fun _ => False) g5).t2 HFW.out (fun i hi e => by have := HGE.out _ e; omega)).toG (fun _ _ h => h)
    have m0 := bo0.cell 0
    have m1 := bo0.cell 1
    have m2 := bo0.cell 2
    have l0 := bo0.lt
    by_cases hlt : k < r.protests.length
    · have hki : (k : Int) < r.protests.length := by omega
      rcases (HAT.out.keep gwo).ts with hx | ⟨tb, to, hte, htb, htc⟩
      · rw [hx] at hlt; simp at hlt
      have q0 := htc k hlt
      rw [hte] at m2
      have m2' : wo.cell? ⟨w.heap.size, 2, none⟩ = some (.slice (some ⟨tb, to, none⟩) r.protests.length r.tc) := m2
      have hbit := bit_int n k
      have hkn : k ≤ 64 := by omega
      have hk0 : (0 : Int) ≤ k := by omega
      have hk64 : (k : Int) ≤ 64 := by omega
      have hn0 : (0 : Int) ≤ (n : Nat) := by omega
      have hst : stTo r.protests n (k + 1) = if bitB n k = true then stTo r.protests n k ++ [r.protests.getD k 0] else stTo r.protests n k := rfl
      have hhas := ((race_iff r).1 HRB.out).2.2.2.2 k hlt
      obtain ⟨z, hz⟩ : ∃ z, z = r.protests.getD k 0 := ⟨_, rfl⟩
      rw [← hz] at q0 hst hhas
      have HTE := Lib.hid hte
      clear hz htc m2 hte
      cases hb : bitB n k
      · rw [hb] at hbit hst
        have HST := Lib.hid (show stTo r.protests n (k + 1) = stTo r.protests n k by simpa using hst)
        clear hst hb hhas
        go_wp2_with fail
        go_roundw
        case rel => exact ⟨k + 1, by omega, by go_num, by rw [HST.out]; exact HRW.out, HFW.out⟩
        case measure => simp [intOf] <;> omega
      · rw [hb] at hbit hst
        have HST := Lib.hid (show stTo r.protests n (k + 1) = stTo r.protests n k ++ [z] by simpa using hst)
        clear hst hb
        obtain ⟨q, hq, hqb, hqi⟩ := racer_at hhas
        have hqo : q < o.racers.length := by have := HLO.out; omega
        have hob : (o.racers.getD q default).bird = z := by
          have e := congrArg (fun m => m[q]?) HER.out
          simp only [List.getElem?_map] at e
          rw [List.getElem?_eq_getElem hqo, List.getElem?_eq_getElem hq] at e
          simp only [Option.map_some, Option.some.injEq] at e
          have e2 : (o.racers[q]).bird = (r.racers[q]).bird := congrArg (fun q => q.1) e
          rw [List.getD_eq_getElem?_getD, List.getElem?_eq_getElem hqo]
          rw [List.getD_eq_getElem?_getD, List.getElem?_eq_getElem hq] at hqb
          exact e2.trans hqb
        have huo : Uniq o.racers := uniqP_rc HER.out.symm (uniq_of (race_parts HRB.out)).2
        have hrl : wo.ownsRow B 60 5 (.slice o.ra (o.racers.map (outS (stTo r.protests n k))).length o.rc) (o.racers.map (outS (stTo r.protests n k))).length (rcV (o.racers.map (outS (stTo r.protests n k)))) := by rw [List.length_map]; exact HRW.out
        obtain ⟨g, cur, hoa, hgB, hblk, hin, hal⟩ := row_put hrl (i := q) (by rw [List.length_map]; exact hqo)
        have hqoi : (q : Int) < o.racers.length := by omega
        have hq12 : q ≤ 12 := by omega
        have hSk : ∀ W', G wo W' → Blk W' K 26 #[.slice (some ⟨g, 0, none⟩) o.racers.length o.rc, .slice o.pa o.pools.length o.pc, .slice none 0 0] ∧ Blk W' w.heap.size 26 #[.slice r.ra r.racers.length r.rc, .slice r.pa r.pools.length r.pc, .slice r.ta r.protests.length r.tc] ∧ W'.cell? ⟨tb, to + k, none⟩ = some (.int .i64 z) ∧ tb < W'.heap.size := fun W' hW => by
          refine ⟨?_, bo0.keep hW, ((bcellB hW).1 tb _ htb).trans q0, Nat.lt_of_lt_of_le htb hW.size⟩
          have := boK.keep hW
          rw [hoa] at this
          exact this
        have HOA := Lib.hid hoa
        have HOB := Lib.hid hob
        have HUO := Lib.hid huo
        have HQI := Lib.hid hqi
        have HBL := Lib.hid hblk
        clear hal hrl hoa hob huo hqi hblk hqb hhas
        have boK2 := boK
        go_upto_region 7 with fail
        clear m0 m1 m2' l0 q0
        refine wp_region_Y (S := fun W' => Blk W' K 26 #[.slice (some ⟨g, 0, none⟩) o.racers.length o.rc, .slice o.pa o.pools.length o.pc, .slice none 0 0] ∧ Blk W' w.heap.size 26 #[.slice r.ra r.racers.length r.rc, .slice r.pa r.pools.length r.pc, .slice r.ta r.protests.length r.tc] ∧ W'.cell? ⟨tb, to + k, none⟩ = some (.int .i64 z) ∧ tb < W'.heap.size) 10 11 rfl (by kernel_rfl) (hSk _ (G.rf _).d) (fun hS => ?_)
        have gd : G wo wo.drew := (G.rf _).d
        refine wpAnyY_take (i := 0) (v := ?_) rfl (by kernel_rfl) (by kernel_rfl) (by kernel_rfl) (by kernel_rfl) (fun _ _ _ h => h) (Or.inl ⟨by kernel_rfl, ?_⟩) hS ?_
        rotate_left
        · intro w' hSw; go_simp; with_reducible rfl
        try simp only [Act.put, List.getElem_toArray, List.getElem_cons_zero, List.getElem_cons_succ, List.setIfInBounds_toArray, List.set_cons_zero, List.set_cons_succ]
        refine wpAnyY_take (i := 1) (v := ?_) rfl (by kernel_rfl) (by kernel_rfl) (by kernel_rfl) (by kernel_rfl) (fun _ _ _ h => h) (Or.inl ⟨by kernel_rfl, ?_⟩) hS ?_
        rotate_left
        · intro w' hSw; obtain ⟨s1, s2, s3, s4⟩ := hSw; have t0 := s1.cell 0; have t1 := s1.lt; go_simp; with_reducible rfl
        try simp only [Act.put, List.getElem_toArray, List.getElem_cons_zero, List.getElem_cons_succ, List.setIfInBounds_toArray, List.set_cons_zero, List.set_cons_succ]
        refine wpAnyY_take (i := 2) (v := ?_) rfl (by kernel_rfl) (by kernel_rfl) (by kernel_rfl) (by kernel_rfl) (fun _ _ _ h => h) (Or.inl ⟨by kernel_rfl, ?_⟩) hS ?_
        rotate_left
        · intro w' hSw; obtain ⟨s1, s2, s3, s4⟩ := hSw; have t0 := s2.cell 0; have t1 := s2.cell 1; have t2 := s2.cell 2; have t3 := s2.lt; go_simp; with_reducible rfl
        try simp only [Act.put, List.getElem_toArray, List.getElem_cons_zero, List.getElem_cons_succ, List.setIfInBounds_toArray, List.set_cons_zero, List.set_cons_succ]
        refine wpAnyY_take (i := 3) (v := ?_) rfl (by kernel_rfl) (by kernel_rfl) (by kernel_rfl) (by kernel_rfl) (fun _ _ _ h => h) (Or.inl ⟨by kernel_rfl, ?_⟩) hS ?_
        rotate_left
        · intro w' hSw; go_simp; with_reducible rfl
        try simp only [Act.put, List.getElem_toArray, List.getElem_cons_zero, List.getElem_cons_succ, List.setIfInBounds_toArray, List.set_cons_zero, List.set_cons_succ]
        refine wpAnyY_take (i := 4) (v := ?_) rfl (by kernel_rfl) (by kernel_rfl) (by kernel_rfl) (by kernel_rfl) (fun _ _ _ h => h) (Or.inl ⟨by kernel_rfl, ?_⟩) hS ?_
        rotate_left
        · intro w' hSw; obtain ⟨s1, s2, s3, s4⟩ := hSw; have t0 : w'.cell? ⟨w.heap.size, 2, none⟩ = some (.slice (some ⟨tb, to, none⟩) r.protests.length r.tc) := (by have := s2.cell 2; rw [HTE.out] at this; exact this); have t3 := s2.lt; go_simp; with_reducible rfl
        try simp only [Act.put, List.getElem_toArray, List.getElem_cons_zero, List.getElem_cons_succ, List.setIfInBounds_toArray, List.set_cons_zero, List.set_cons_succ]
        refine wpAnyY_take (i := 5) (v := ?_) rfl (by kernel_rfl) (by kernel_rfl) (by kernel_rfl) (by kernel_rfl) (fun _ _ _ h => h) (Or.inl ⟨by kernel_rfl, ?_⟩) hS ?_
        rotate_left
        · intro w' hSw; go_simp; with_reducible rfl
        try simp only [Act.put, List.getElem_toArray, List.getElem_cons_zero, List.getElem_cons_succ, List.setIfInBounds_toArray, List.set_cons_zero, List.set_cons_succ]
        refine wpAnyY_take (i := 6) (v := ?_) rfl (by kernel_rfl) (by kernel_rfl) (by kernel_rfl) (by kernel_rfl) (fun _ _ _ h => h) (Or.inl ⟨by kernel_rfl, ?_⟩) hS ?_
        rotate_left
        · intro w' hSw; go_simp; with_reducible rfl
        try simp only [Act.put, List.getElem_toArray, List.getElem_cons_zero, List.getElem_cons_succ, List.setIfInBounds_toArray, List.set_cons_zero, List.set_cons_succ]
        refine wpAnyY_take (i := 7) (v := ?_) rfl (by kernel_rfl) (by kernel_rfl) (by kernel_rfl) (by kernel_rfl) (fun _ _ _ h => h) (Or.inl ⟨by kernel_rfl, ?_⟩) hS ?_
        rotate_left
        · intro w' hSw; obtain ⟨s1, s2, s3, s4⟩ := hSw; go_simp; with_reducible rfl
        try simp only [Act.put, List.getElem_toArray, List.getElem_cons_zero, List.getElem_cons_succ, List.setIfInBounds_toArray, List.set_cons_zero, List.set_cons_succ]
        refine wpAnyY_oneSW (i := 8) (by kernel_rfl) rfl (by kernel_rfl) (fun K8 hK8 => ?_)
        go_simp
        refine (HRI.out _ (gwo.t gd) z).mono ?_
        rintro e w8 ⟨rfl, hG8⟩
        rw [HQI.out]
        refine hK8.out _ _ (hSk _ (gd.t hG8)) (fun hS => ?_)
        clear hK8
        try simp only [Act.put, List.getElem_toArray, List.getElem_cons_zero, List.getElem_cons_succ, List.setIfInBounds_toArray, List.set_cons_zero, List.set_cons_succ]
        refine wpAnyY_take (i := 9) (v := ?_) rfl (by kernel_rfl) (by kernel_rfl) (by kernel_rfl) (by kernel_rfl) (fun _ _ _ h => h) (Or.inl ⟨by kernel_rfl, ?_⟩) hS ?_
        rotate_left
        · intro w' hSw; go_simp; with_reducible rfl
        try simp only [Act.put, List.getElem_toArray, List.getElem_cons_zero, List.getElem_cons_succ, List.setIfInBounds_toArray, List.set_cons_zero, List.set_cons_succ]
        refine wpAnyY_oneW (i := 10) (by kernel_rfl) rfl (by kernel_rfl) (by kernel_rfl) (fun K10 hK10 => ?_)
        go_simp
        refine hK10.out _ _ ?_
        clear hK10
        try simp only [Act.put, List.getElem_toArray, List.getElem_cons_zero, List.getElem_cons_succ, List.setIfInBounds_toArray, List.set_cons_zero, List.set_cons_succ]
        refine wpAnyY_done (by kernel_rfl) ?_ _
        clear hS hSk
        have g8 := gd.t hG8
        have hbl8 := HBL.out.keep g8
        obtain ⟨u2, hu2⟩ := Option.isSome_iff_exists.1 (blk_has hbl8 (i := q * 5 + 2) (by omega))
        have z2 := hbl8.frozen (q * 5 + 2)
        have lg := hbl8.lt
        have hblk2 := hbl8.set_ (q * 5 + 2) (.int .i64 0)
        obtain ⟨u3, hu3⟩ := Option.isSome_iff_exists.1 (blk_has hblk2 (i := q * 5 + 3) (by rw [Array.size_setIfInBounds]; omega))
        have z3 := hblk2.frozen (q * 5 + 3)
        have HRW8 := Lib.hid (own_G HRW.out g8)
        have HFW8 := Lib.hid (HFW.out.g g8)
        clear hbl8 hblk2 g8 gd hG8 boK boK2 bo0
        go_wp2_with fail
        have hrow := case_row HRW8.out HOA.out HUO.out hqo HOB.out
        rw [← HST.out] at hrow
        have HROW := Lib.hid hrow
        have HFE := Lib.hid ((HFW8.out.s (p := ⟨g, q * 5 + 2, none⟩) (.inl HOA.out) (.int .i64 0)).s (p := ⟨g, q * 5 + 3, none⟩) (.inl HOA.out) (.int .i64 0))
        clear hrow hu2 hu3 z2 z3 lg
        go_roundw
        case rel => exact ⟨k + 1, by omega, by go_num, HROW.out, HFE.out⟩
        case measure => simp [intOf] <;> omega
    · obtain rfl : k = r.protests.length := by omega
      have hki : ¬ ((r.protests.length : Nat) : Int) < r.protests.length := by omega
      have bo1 := HFW.out.blk HB1.out (fun e => by have := HGE.out _ e; omega)
      have e0 := boK.cell 0
      have e1 := boK.cell 1
      have e2 := boK.cell 2
      have le := boK.lt
      have r0 := bo1.cell 0
      have r1 := bo1.cell 1
      have r2 := bo1.cell 2
      have z0 := bo1.frozen 0
      have z1 := bo1.frozen 1
      have z2 := bo1.frozen 2
      have lr := bo1.lt
      go_wp2_with fail
      clear r0 r1 r2 z0 z1 z2 lr e0 e1 e2 le
      have bE := ((bo1.set_ 0 (.slice o.ra o.racers.length o.rc)).set_ 1 (.slice o.pa o.pools.length o.pc)).set_ 2 (.slice none 0 0)
      simp only [List.setIfInBounds_toArray, List.set_cons_zero, List.set_cons_succ] at bE
      have hFE : Fr (fun i => i = w.heap.size + 1) wo (((wo.setCell ⟨w.heap.size + 1, 0, none⟩ (.slice o.ra o.racers.length o.rc)).setCell ⟨w.heap.size + 1, 1, none⟩ (.slice o.pa o.pools.length o.pc)).setCell ⟨w.heap.size + 1, 2, none⟩ (.slice none 0 0)) := (((Fr.rf (fun i => i = w.heap.size + 1) wo).s (p := ⟨w.heap.size + 1, 0, none⟩) (.inl rfl) _).s (p := ⟨w.heap.size + 1, 1, none⟩) (.inl rfl) _).s (p := ⟨w.heap.size + 1, 2, none⟩) (.inl rfl) _
      generalize ((wo.setCell ⟨w.heap.size + 1, 0, none⟩ (.slice o.ra o.racers.length o.rc)).setCell ⟨w.heap.size + 1, 1, none⟩ (.slice o.pa o.pools.length o.pc)).setCell ⟨w.heap.size + 1, 2, none⟩ (.slice none 0 0) = WE at *
      have gE : G w WE := ((G.fr (R := fun _ => False) gwo).t2 hFE (fun i hi e => by omega)).toG (fun _ _ h => h)
      have hrE := own_Fr HRW.out hFE (fun g hg e => by have := own_base HRW.out hg; omega)
      have hF2 : Fr (fun i => o.ra = some ⟨i, 0, none⟩ ∨ i = w.heap.size + 1) W5 WE := ⟨hFE.os.trans HFW.out.os, hFE.tape.trans HFW.out.tape, hFE.output.trans HFW.out.output, Nat.le_trans HFW.out.size hFE.size, fun i hi hn => (hFE.block i (Nat.lt_of_lt_of_le hi HFW.out.size) (fun e => hn (.inr e))).trans (HFW.out.block i hi (fun e => hn (.inl e)))⟩
      have hAE := case_at (S := stOf r.protests n) (HAT.out.keep gE) hF2 hB1 HCR5.out hrE HRP5.out HPR5.out HPT5.out HER.out HEP.out
      have HF := Lib.hid (HP.out o WE gE HER.out HEP.out HET.out hAE)
      refine bodyPost_ret (res30 _ _ (w.heap.size + 1) _ _ _ _ _ _ _ _ _ rfl bE) rfl ?_
      exact HF.out
end Go.Proofs.YtnkmcoljijmgpaaGreat

set_option linter.unusedSimpArgs false
set_option linter.unusedVariables false
namespace Go.Proofs.YtnkmcoljijmgpaaGreat
open Go.RowKit Go.Shelf Go.Sort Go.Maps
attribute [local go_sem] Oper.semAt_some
theorem anyU_succ (p : Nat → Bool) (n : Nat) : anyU p (n + 1) = (anyU p n || p n) := by
  unfold anyU
  rw [List.range_succ, List.any_append]
  simp
theorem anyU_iff {p : Nat → Bool} {n : Nat} : anyU p n = true ↔ ∃ i, i < n ∧ p i = true := by
  unfold anyU
  rw [List.any_eq_true]
  constructor
  · rintro ⟨i, hi, e⟩
    exact ⟨i, List.mem_range.1 hi, e⟩
  · rintro ⟨i, hi, e⟩
    exact ⟨i, List.mem_range.2 hi, e⟩
theorem allU_succ (p : Nat → Bool) (n : Nat) : allU p (n + 1) = (allU p n && p n) := by
  unfold allU
  rw [anyU_succ]
  cases anyU (fun i => !p i) n <;> cases p n <;> rfl
/-- what the law of the cases says of one bird, V being its amounts and F whether it is first -/
structure CasF (NN : Nat) (V : Nat → Int) (F : Nat → Bool) (lo hi : Int) (S M : List Int) (b : Int) : Prop where
  ge : ∀ j, j < NN → lo ≤ V j ∧ V j ≤ hi
  low : anyU (fun j => V j == lo) NN = true
  high : anyU (fun j => V j == hi) NN = true
  all : allU F NN = inL S b
  some : (anyU F NN && !allU F NN) = inL M b
theorem cas_of {f : Fu} {ps : List Int} {b : Int} {S M : List Int} (h : FiOk f (caseL ps) S M) : CasF (2 ^ ps.length) (fun j => wonAt (wonL f (stOf ps j)) b) (fun j => inL (firstL f (stOf ps j)) b) (canLo f b (caseL ps)) (canHi f b (caseL ps)) S M b := by
  have hm : ∀ U, U ∈ caseL ps ↔ ∃ j, j < 2 ^ ps.length ∧ stOf ps j = U := fun U => by
    unfold caseL
    rw [List.mem_map]
    constructor
    · rintro ⟨j, hj, e⟩
      exact ⟨j, List.mem_range.1 hj, e⟩
    · rintro ⟨j, hj, e⟩
      exact ⟨j, List.mem_range.2 hj, e⟩
  obtain ⟨l1, U, hU, l2⟩ := can_lo f b ps
  obtain ⟨u1, V, hV, u2⟩ := can_hi f b ps
  have hall : allU (fun j => inL (firstL f (stOf ps j)) b) (2 ^ ps.length) = true ↔ cntI f (caseL ps) b = (caseL ps).length := by
    rw [cnt_all, allU_iff]
    constructor
    · intro h st hst
      obtain ⟨j, hj, rfl⟩ := (hm st).1 hst
      exact h j hj
    · intro h j hj
      exact h _ ((hm _).2 ⟨j, hj, rfl⟩)
  have hsome : anyU (fun j => inL (firstL f (stOf ps j)) b) (2 ^ ps.length) = true ↔ 0 < cntI f (caseL ps) b := by
    rw [cnt_some, anyU_iff]
    constructor
    · rintro ⟨j, hj, e⟩
      exact ⟨_, (hm _).2 ⟨j, hj, rfl⟩, e⟩
    · rintro ⟨st, hst, e⟩
      obtain ⟨j, hj, rfl⟩ := (hm st).1 hst
      exact ⟨j, hj, e⟩
  have hpos := case_pos ps
  refine ⟨fun j hj => ⟨l1 _ ((hm _).2 ⟨j, hj, rfl⟩), u1 _ ((hm _).2 ⟨j, hj, rfl⟩)⟩, ?_, ?_, ?_, ?_⟩
  · obtain ⟨j, hj, rfl⟩ := (hm U).1 hU
    exact anyU_iff.2 ⟨j, hj, by simpa using l2.symm⟩
  · obtain ⟨j, hj, rfl⟩ := (hm V).1 hV
    exact anyU_iff.2 ⟨j, hj, by simpa using u2.symm⟩
  · rw [Bool.eq_iff_iff, hall, inL_iff, h.sure]
    omega
  · rw [Bool.eq_iff_iff, inL_iff, h.maybe, Bool.and_eq_true, hsome, Bool.not_eq_true', ← Bool.not_eq_true, hall]
theorem q_has {r : Ra} {p b : Int} (h : qE r p [b] = 0) : hasB (runners r p) b = true := by
  obtain ⟨h1, h2⟩ := qE_parts h
  unfold qE at h
  rw [if_pos h1, if_pos h2] at h
  cases hh : hasB (runners r p) b
  · have e : allU (fun i => hasB (runners r p) ([b].getD i 0)) [b].length = false := by
      show allU (fun i => hasB (runners r p) ([b].getD i 0)) 1 = false
      rw [allU_succ]
      have : hasB (runners r p) ([b].getD 0 0) = false := hh
      rw [this, Bool.and_false]
    rw [e] at h
    exact absurd h (by decide)
  · rfl
/-- one case: the race with the birds struck -/
theorem case_one {r o o1 : Ra} {p b : Int} {n : Nat} (hr : raceB r = true) (her : o.racers.map rcP = r.racers.map rcP) (hps : o.pools.map poP = r.pools.map poP) (hpr : o.protests = r.protests) (hq : qE r p [b] = 0)
    (h1 : o1.racers = o.racers.map (outS (stOf r.protests n))) (h2 : o1.pools = o.pools) (h3 : o1.protests = []) :
    qE o1 p [] = 0 ∧ ((prizesL (fuOf o1 p none 0)).any fun x => x.bird == b) = true ∧ (pzP (prizesL (fuOf o1 p none 0)) b).won = wonAt (wonL (fuOf r p none 0) (stOf r.protests n)) b ∧ orderL (fuOf o1 p none 0) [] = orderL (fuOf r p none 0) (stOf r.protests n) := by
  obtain ⟨hB, hQ, hW⟩ := case_all (p := p) hr her hps hpr h1 h2 (by rw [h3]; exact List.nil_sublist _)
  have hq0 : qE r p [] = 0 := by
    unfold qE
    rw [if_pos (qE_parts hq).1, if_pos (qE_parts hq).2]
    rfl
  obtain ⟨w1, w2⟩ := hW [] (stOf r.protests n) (fun b => by
    have : inL [] b = false := rfl
    rw [this, Bool.false_or])
  have hx : ∃ x ∈ (fuOf o1 p none 0).rs, x.bird = b := hasB_mem.1 (q_has ((hQ [b]).trans hq))
  obtain ⟨p1, p2, p3⟩ := pzP_fund (f := fuOf o1 p none 0) hx
  exact ⟨(hQ []).trans hq0, p1, by rw [p3, w1], w2⟩
theorem canOk {r : Ra} {p b : Int} (hq : qE r p [b] = 0) : canT r p b = (canLo (fuOf r p none 0) b (caseL r.protests), canHi (fuOf r p none 0) b (caseL r.protests), 0) := if_pos hq
end Go.Proofs.YtnkmcoljijmgpaaGreat

set_option linter.unusedSimpArgs false
set_option linter.unusedVariables false
namespace Go.Proofs.YtnkmcoljijmgpaaGreat
open Go.RowKit Go.Shelf Go.Sort Go.Maps
attribute [local go_sem] Oper.semAt_some
theorem grp_snoc2 {l : List Rc} {y : Rc} (hs : sameB (l ++ [y]) l.length = true) : grpTo (l ++ [y]) (l ++ [y]).length = addLast (grpTo l l.length) y.bird := by
  rw [List.length_append, List.length_singleton]
  have e : (l ++ [y]).getD l.length default = y := by
    rw [List.getD_eq_getElem?_getD, List.getElem?_append_right (Nat.le_refl _), Nat.sub_self]
    rfl
  conv => lhs; unfold grpTo
  rw [if_pos hs, grp_pre l y _ (Nat.le_refl _), e]
/-- day and rank -/
def keyR (x : Rc) : Int × Int := (x.day, x.rank)
theorem sameB_snoc {l : List Rc} {y z : Rc} : sameB ((l ++ [z]) ++ [y]) (l ++ [z]).length = decide (keyR y = keyR z) := by
  have e : ((l ++ [z]) ++ [y]).getD (l ++ [z]).length default = y := by
    rw [List.getD_eq_getElem?_getD, List.getElem?_append_right (Nat.le_refl _), Nat.sub_self]
    rfl
  have e2 : ((l ++ [z]) ++ [y]).getD ((l ++ [z]).length - 1) default = z := by
    rw [List.length_append, List.length_singleton, Nat.add_sub_cancel, List.getD_eq_getElem?_getD, List.getElem?_append_left (by simp), List.getElem?_append_right (Nat.le_refl _), Nat.sub_self]
    rfl
  unfold sameB befD keyR
  rw [if_neg (by simp), e, e2]
  simp [Prod.ext_iff]
theorem sameB_first {y : Rc} (h : y.day ≠ 0) : sameB ([] ++ [y]) ([] : List Rc).length = false := by
  unfold sameB befD
  simp [h]
theorem grp_run {P : List Rc} {s : Int × Int} {gs : List (List Int)} : ∀ (S S0 : List Rc), S0 ≠ [] → (∀ x ∈ S0, keyR x = s) → (∀ x ∈ S, keyR x = s) → grpTo (P ++ S0) (P ++ S0).length = gs ++ [S0.map Rc.bird] → grpTo (P ++ (S0 ++ S)) (P ++ (S0 ++ S)).length = gs ++ [(S0 ++ S).map Rc.bird]
  | [], S0, _, _, _, h => by rw [List.append_nil]; exact h
  | y :: S, S0, h0, h1, h2, h => by
    obtain ⟨T, z, rfl⟩ : ∃ T z, S0 = T ++ [z] := ⟨S0.dropLast, S0.getLast h0, (List.dropLast_concat_getLast h0).symm⟩
    have e : (T ++ [z]) ++ y :: S = ((T ++ [z]) ++ [y]) ++ S := by simp
    rw [e]
    refine grp_run S ((T ++ [z]) ++ [y]) (by simp) (fun x hx => ?_) (fun x hx => h2 x (List.mem_cons_of_mem _ hx)) ?_
    · rcases List.mem_append.1 hx with hx | hx
      · exact h1 x hx
      · rw [List.mem_singleton.1 hx]; exact h2 y (List.mem_cons_self ..)
    · have hs : sameB ((P ++ (T ++ [z])) ++ [y]) (P ++ (T ++ [z])).length = true := by
        rw [← List.append_assoc, sameB_snoc, h1 z (by simp), h2 y (List.mem_cons_self ..)]
        simp
      rw [← List.append_assoc, grp_snoc2 hs, h, addLast_app]
      simp
theorem grp_seg {P S : List Rc} {s : Int × Int} (hS : ∀ x ∈ S, keyR x = s) (hP : ∀ x ∈ P, keyR x ≠ s) (h0 : s.1 ≠ 0) : grpTo (P ++ S) (P ++ S).length = grpTo P P.length ++ (if (S.map Rc.bird).isEmpty then [] else [S.map Rc.bird]) := by
  cases S with
  | nil => simp
  | cons y S =>
    have hy := hS y (List.mem_cons_self ..)
    have hs : sameB (P ++ [y]) P.length = false := by
      rcases List.eq_nil_or_concat P with rfl | ⟨T, z, e⟩
      · refine sameB_first ?_
        rw [← hy] at h0
        exact h0
      · obtain rfl : P = T ++ [z] := by simpa using e
        rw [sameB_snoc, decide_eq_false_iff_not, hy]
        exact fun e => hP z (by simp) e.symm
    have h := grp_run (P := P) (s := s) (gs := grpTo P P.length) S [y] (by simp) (fun x hx => by rw [List.mem_singleton.1 hx]; exact hy) (fun x hx => hS x (List.mem_cons_of_mem _ hx)) (by rw [grp_snoc hs]; rfl)
    have e : [y] ++ S = y :: S := rfl
    rw [e] at h
    rw [h]
    simp
/-- the groups of a row of segments -/
theorem grp_segs : ∀ (ks : List (Int × Int)) (F : Int × Int → List Rc) (P : List Rc), ks.Nodup → (∀ s ∈ ks, s.1 ≠ 0) → (∀ s ∈ ks, ∀ x ∈ F s, keyR x = s) → (∀ x ∈ P, keyR x ∉ ks) →
    grpTo (P ++ (ks.map F).flatten) (P ++ (ks.map F).flatten).length = grpTo P P.length ++ (ks.map fun s => (F s).map Rc.bird).filter fun g => !g.isEmpty
  | [], F, P, _, _, _, _ => by simp
  | s :: ks, F, P, hn, h0, hF, hP => by
    rw [List.nodup_cons] at hn
    have hs := h0 s (List.mem_cons_self ..)
    have hFs := hF s (List.mem_cons_self ..)
    have ih := grp_segs ks F (P ++ F s) hn.2 (fun t ht => h0 t (List.mem_cons_of_mem _ ht)) (fun t ht => hF t (List.mem_cons_of_mem _ ht)) (fun x hx => by
      rcases List.mem_append.1 hx with hx | hx
      · exact fun h => hP x hx (List.mem_cons_of_mem _ h)
      · rw [hFs x hx]; exact hn.1)
    have h1 := grp_seg (P := P) hFs (fun x hx e => hP x hx (by rw [e]; exact List.mem_cons_self ..)) hs
    rw [List.map_cons, List.flatten_cons, ← List.append_assoc, ih, h1, List.map_cons, List.filter_cons, List.append_assoc]
    cases hb : ((F s).map Rc.bird).isEmpty <;> simp
theorem split_sorted {R : Rc → Rc → Prop} {p : Rc → Bool} (hp : ∀ x y, R x y → p y = true → p x = true) : ∀ T : List Rc, T.Pairwise R → T = T.filter p ++ T.filter fun x => !p x
  | [], _ => rfl
  | a :: T, h => by
    rw [List.pairwise_cons] at h
    have ih := split_sorted hp T h.2
    cases ha : p a
    · have hno : T.filter p = [] := List.filter_eq_nil_iff.2 (fun x hx hpx => by rw [hp a x (h.1 x hx) hpx] at ha; cases ha)
      have hall : T.filter (fun x => !p x) = T := List.filter_eq_self.2 (fun x hx => by
        cases hx2 : p x
        · rfl
        · exact absurd hx2 (List.filter_eq_nil_iff.1 hno x hx))
      rw [List.filter_cons_of_neg (by simp [ha]), List.filter_cons_of_pos (by simp [ha]), hno, hall]
      rfl
    · rw [List.filter_cons_of_pos ha, List.filter_cons_of_neg (by simp [ha]), List.cons_append, ← ih]
def ltK (a b : Int × Int) : Prop := a.1 < b.1 ∨ (a.1 = b.1 ∧ a.2 < b.2)
def slotT (T : List Rc) (s : Int × Int) : List Rc := T.filter fun x => decide (keyR x = s)
theorem segs_all : ∀ (ks : List (Int × Int)) (T : List Rc), ks.Pairwise ltK → T.Pairwise (fun x y => lexL y x = false) → (∀ x ∈ T, keyR x ∈ ks) → T = (ks.map (slotT T)).flatten
  | [], T, _, _, h => by
    cases T with
    | nil => rfl
    | cons a T => exact absurd (h a (List.mem_cons_self ..)) (by simp)
  | s :: ks, T, hk, hT, h => by
    rw [List.pairwise_cons] at hk
    have hsp := split_sorted (p := fun x => decide (keyR x = s)) (R := fun x y => x ∈ T ∧ y ∈ T ∧ lexL y x = false) (fun x y hxy hy => by
      simp only [decide_eq_true_eq] at hy ⊢
      rcases List.mem_cons.1 (h x hxy.1) with h1 | h1
      · exact h1
      · have h2 := hk.1 _ h1
        have h3 := hxy.2.2
        unfold lexL at h3
        unfold ltK keyR at h2
        unfold keyR at hy
        rw [← hy] at h2
        simp only [decide_eq_false_iff_not] at h3
        dsimp only at h2
        omega) T (by
      rw [List.pairwise_iff_getElem] at hT ⊢
      exact fun i j hi hj hij => ⟨List.getElem_mem hi, List.getElem_mem hj, hT i j hi hj hij⟩)
    have ih := segs_all ks (T.filter fun x => !decide (keyR x = s)) hk.2 (hT.sublist List.filter_sublist) (fun x hx => by
      obtain ⟨h1, h2⟩ := List.mem_filter.1 hx
      rcases List.mem_cons.1 (h x h1) with h3 | h3
      · simp [h3] at h2
      · exact h3)
    have e : ks.map (slotT (T.filter fun x => !decide (keyR x = s))) = ks.map (slotT T) := List.map_congr_left (fun t ht => by
      unfold slotT
      rw [List.filter_filter]
      refine List.filter_congr (fun x _ => ?_)
      by_cases h1 : keyR x = t
      · have : keyR x ≠ s := fun e => by
          have h2 := hk.1 t ht
          rw [← h1, e] at h2
          unfold ltK at h2
          omega
        simp [h1]
        rw [← h1]
        exact this
      · simp [h1])
    rw [e] at ih
    rw [List.map_cons, List.flatten_cons, ← ih]
    exact hsp
/-- the t-th day and rank of the reference -/
def keyT (t : Nat) : Int × Int := ((t / 12 + 1 : Nat), (t % 12 + 1 : Nat))
def keysT : List (Int × Int) := (List.range 24).map keyT
theorem keysT_lt : keysT.Pairwise ltK := by
  unfold keysT
  rw [List.pairwise_map, List.pairwise_iff_getElem]
  intro i j hi hj hij
  simp only [List.getElem_range, List.length_range] at *
  unfold ltK keyT
  dsimp only
  omega
theorem keysT_mem {d r : Int} (hd : d = 1 ∨ d = 2) (hr : 1 ≤ r ∧ r ≤ 12) : (d, r) ∈ keysT := by
  refine List.mem_map.2 ⟨((d - 1) * 12 + (r - 1)).toNat, List.mem_range.2 (by omega), ?_⟩
  unfold keyT
  rw [Prod.ext_iff]
  dsimp only
  omega
/-- the birds of one day and rank that can take places -/
def tieS (first : Bool) (rs : List Rc) (s : Int × Int) : List Int := (rs.filter fun x => decide (x.day = s.1 ∧ x.rank = s.2) && (decide (s.1 = 1) || !first)).map Rc.bird
def outT (first : Bool) (rs : List Rc) (t : Nat) : List (List Int) := ((List.range t).map fun j => tieS first rs (keyT j)).filter fun g => !g.isEmpty
theorem outT_succ (first : Bool) (rs : List Rc) (t : Nat) : outT first rs (t + 1) = if (tieS first rs (keyT t)).isEmpty = true then outT first rs t else outT first rs t ++ [tieS first rs (keyT t)] := by
  unfold outT
  rw [List.range_succ, List.map_append, List.filter_append, List.map_singleton]
  cases h : (tieS first rs (keyT t)).isEmpty <;> simp [List.filter_cons, h]
theorem slot_eq {f : Fu} (hu : Uniq f.rs) (hs : f.rs.Pairwise fun x y => x.bird ≤ y.bird) {s : Int × Int} (h1 : s.1 = 1 ∨ s.1 = 2) : (slotT (takersL f []) s).map Rc.bird = tieS f.po.first f.rs s := by
  unfold tieS
  congr 1
  have e : (f.rs.filter fun x => decide (x.day = s.1 ∧ x.rank = s.2) && (decide (s.1 = 1) || !f.po.first)) = (f.rs.filter fun x => !skipB f.po.first [] x).filter fun x => decide (keyR x = s) := by
    rw [List.filter_filter]
    refine List.filter_congr (fun x _ => ?_)
    by_cases hk : keyR x = s
    · have hk2 : x.day = s.1 ∧ x.rank = s.2 := by rw [← hk]; exact ⟨rfl, rfl⟩
      rw [Bool.eq_iff_iff]
      simp only [hk, hk2, Bool.and_eq_true, decide_eq_true_eq, Bool.or_eq_true, Bool.not_eq_true', true_and, and_true, and_self]
      rw [skip0, hk2.1]
      constructor
      · rintro (a | a)
        · exact ⟨by omega, fun _ => a⟩
        · exact ⟨by omega, fun b => by rw [a] at b; cases b⟩
      · rintro ⟨_, a⟩
        cases hf : f.po.first
        · exact .inr rfl
        · exact .inl (a hf)
    · have hk2 : ¬ (x.day = s.1 ∧ x.rank = s.2) := fun e => hk (by unfold keyR; rw [e.1, e.2])
      simp [hk, hk2]
  rw [e]
  have hu2 : Uniq ((f.rs.filter fun x => !skipB f.po.first [] x).filter fun x => decide (keyR x = s)) := uniq_filter (uniq_filter hu _) _
  have hp : (slotT (takersL f []) s).Perm ((f.rs.filter fun x => !skipB f.po.first [] x).filter fun x => decide (keyR x = s)) := (tks_perm _).filter _
  refine List.Perm.eq_of_pairwise (le := fun x y : Rc => x.bird ≤ y.bird) (fun a b ha hb g1 g2 => uniq_eq hu2 (hp.mem_iff.1 ha) hb (by omega)) ?_ ((hs.filter _).filter _) hp
  have hpw := tks_pw (f.rs.filter fun x => !skipB f.po.first [] x)
  have hq : (slotT (takersL f []) s).Pairwise fun x y => lexL y x = false := hpw.filter _
  rw [List.pairwise_iff_getElem] at hq ⊢
  intro i j hi hj hij
  have g := hq i j hi hj hij
  have k1 : keyR (slotT (takersL f []) s)[i] = s := by simpa using (List.mem_filter.1 (List.getElem_mem hi)).2
  have k2 : keyR (slotT (takersL f []) s)[j] = s := by simpa using (List.mem_filter.1 (List.getElem_mem hj)).2
  have k3 := k1.trans k2.symm
  unfold keyR at k3
  rw [Prod.ext_iff] at k3
  unfold lexL at g
  simp only [decide_eq_false_iff_not] at g
  dsimp only at k3
  omega
theorem order_eq {f : Fu} (hu : Uniq f.rs) (hs : f.rs.Pairwise fun x y => x.bird ≤ y.bird) (hd : ∀ x ∈ f.rs, x.day = 0 ∨ ((x.day = 1 ∨ x.day = 2) ∧ 1 ≤ x.rank ∧ x.rank ≤ 12)) : orderL f [] = outT f.po.first f.rs 24 := by
  have hseg := segs_all keysT (takersL f []) keysT_lt (tks_pw _) (fun x hx => by
    obtain ⟨h1, h2⟩ := takers_mem.1 hx
    rcases hd x h1 with h3 | ⟨h3, h4⟩
    · exact absurd h3 (skip0.1 h2).1
    · exact keysT_mem h3 h4)
  have hnd : keysT.Nodup := keysT_lt.imp (fun {a b} h e => by subst e; unfold ltK at h; omega)
  have hs1 : ∀ s ∈ keysT, s.1 = 1 ∨ s.1 = 2 := fun s hm => by
    obtain ⟨t, ht, rfl⟩ := List.mem_map.1 hm
    have := List.mem_range.1 ht
    unfold keyT
    dsimp only
    omega
  have h := grp_segs keysT (slotT (takersL f [])) [] hnd (fun s hm => by have := hs1 s hm; omega) (fun s _ x hx => by simpa using (List.mem_filter.1 hx).2) (fun x hx => by simp at hx)
  rw [List.nil_append, ← hseg] at h
  unfold orderL
  rw [h]
  unfold outT
  show [] ++ _ = _
  rw [List.nil_append]
  congr 1
  unfold keysT
  rw [List.map_map]
  refine List.map_congr_left (fun t ht => ?_)
  exact slot_eq hu hs (hs1 _ (List.mem_map_of_mem ht))
end Go.Proofs.YtnkmcoljijmgpaaGreat

set_option linter.unusedSimpArgs false
set_option linter.unusedVariables false
namespace Go.Proofs.YtnkmcoljijmgpaaGreat
open Go.RowKit Go.Shelf Go.Sort Go.Maps
attribute [local go_sem] Oper.semAt_some
/-- the reference's check of a race and a pool -/
theorem refc_any (r : Ra) (p : Int) (w : World) (h : r.At w) : Calls Tryz.prog 63 #[.agg r.v, .int .i64 p] w fun e w' => e = .returned (.int .i64 (qE r p [])) ∧ G w w' := by
  have HCH := Lib.hid (fun (W : World) (hW : G w W) => refCheck8_any r W (h.keep hW))
  have HWI := Lib.hid (fun (W : World) => within_any p 0 ((r.pools.length : Int) - 1) W)
  have hnp := h.np
  have hrv : r.v = #[.slice r.ra r.racers.length r.rc, .slice r.pa r.pools.length r.pc, .slice r.ta r.protests.length r.tc] := rfl
  have HQ : Hid (qE r p [] = if raceB r = true then (if isInB p 0 ((r.pools.length : Int) - 1) = true then 0 else 1) else 80) := by
    show qE r p [] = _
    unfold qE
    rfl
  unfold chk8 at HCH
  rw [hrv] at HCH ⊢
  rw [HQ.out]
  clear h hrv HQ
  have g0 : G w (w.alloc (.cells #[.slice r.ra r.racers.length r.rc, .slice r.pa r.pools.length r.pc, .slice r.ta r.protests.length r.tc] 26)) := (G.rf _).a _
  have b0 : Blk (w.alloc (.cells #[.slice r.ra r.racers.length r.rc, .slice r.pa r.pools.length r.pc, .slice r.ta r.protests.length r.tc] 26)) w.heap.size 26 #[.slice r.ra r.racers.length r.rc, .slice r.pa r.pools.length r.pc, .slice r.ta r.protests.length r.tc] := Blk.new _ _ _
  have m0 := b0.cell 0
  have m1 := b0.cell 1
  have m2 := b0.cell 2
  have l0 := b0.lt
  generalize raceB r = B at *
  generalize isInB p 0 ((r.pools.length : Int) - 1) = E at *
  go_enter Tryz.func63, Tryz.ntmps63
  cases B
  · simp only [Bool.false_eq_true, if_false] at HCH ⊢
    go_wp2_with (go_at_call 14; refine (HCH.out _ g0).mono ?_; rintro e w2 ⟨rfl, hG2⟩)
    have gz := g0.t hG2
    first | exact ⟨rfl, gz⟩ | (go_ret; exact ⟨rfl, gz⟩)
  · simp only [if_true] at HCH ⊢
    cases E
    all_goals
      go_wp2_with (first | (go_at_call 14; refine (HCH.out _ g0).mono ?_; rintro e w2 ⟨rfl, hG2⟩; clear m0 m1 m2 l0; have m1 := (b0.keep hG2).cell 1; have l0 := (b0.keep hG2).lt) | (go_at_call 69; refine (HWI.out _).mono ?_; rintro e w3 ⟨rfl, hG3⟩))
      have gz := (g0.t hG2).t hG3
      first | exact ⟨rfl, gz⟩ | (go_ret; exact ⟨rfl, gz⟩)
theorem shared_any8 (am : Int) (n : Nat) (w : World) (ha : 0 ≤ am ∧ am ≤ 1000000000000) (hn : n ≤ 1000) : Calls Tryz.prog 88 #[.int .i64 am, .int .i64 (n : Nat)] w fun e w' => ∃ v, e = .returned v ∧ w'.ownsRow w.heap.size 3 1 v n (iv ((List.range n).map (shareI am n))) ∧ G w w' := by
  have hd : am.tdiv (n : Int) = am / n := Int.tdiv_eq_ediv_of_nonneg ha.1
  have hm : am.tmod (n : Int) = am % n := Int.tmod_eq_emod_of_nonneg ha.1
  have hq : 0 ≤ am / n ∧ am / (n : Int) ≤ 1000000000000 := ⟨Int.ediv_nonneg ha.1 (by omega), Int.le_trans (Int.ediv_le_self _ ha.1) ha.2⟩
  have HSH : Hid (∀ k : Nat, shareI am n k = am / n + if (k : Int) < am % n then 1 else 0) := fun k => rfl
  obtain ⟨q, hq0⟩ : ∃ q, q = am / (n : Int) := ⟨_, rfl⟩
  obtain ⟨m, hm0⟩ : ∃ m, m = am % (n : Int) := ⟨_, rfl⟩
  rw [← hq0] at hd hq HSH
  rw [← hm0] at hm HSH
  have x1 : IntKind.i64.wrap q = q := IntWalk.i64_in _ (by omega)
  have x2 : IntKind.i64.wrap (q + 1) = q + 1 := IntWalk.i64_in _ (by omega)
  obtain ⟨sh, hsh⟩ : ∃ sh : Nat → Int, sh = shareI am n := ⟨_, rfl⟩
  rw [← hsh] at HSH ⊢
  clear hq0 hm0 hsh
  go_enter Tryz.func88, Tryz.ntmps88
  go_wp2
  go_loopw [5, 6] (fun v i wr => ∃ k : Nat, k ≤ n ∧ i = .int .i64 k ∧ Hid (wr.ownsRow w.heap.size 3 1 v k (iv ((List.range k).map sh))) ∧ Hid (G w wr)) (fun _ i _ => n - (intOf i).toNat)
  case atStart => exact ⟨0, Nat.zero_le _, rfl, World.ownsRow_nil _ _ _ _, G.rf _⟩
  case round =>
    obtain ⟨k, hk, rfl, HO, HG⟩ := hrel
    obtain ⟨wi, rfl⟩ : ∃ wi, wi = wr := ⟨_, rfl⟩
    obtain ⟨va, vc, rfl⟩ := own_slice HO.out
    by_cases hlt : k < n
    · have hki : (k : Int) < n := by omega
      have hbz : ((n : Int) == 0) = false := by simp; omega
      have hbz2 : ¬ n = 0 := by omega
      have hbz3 : ¬ (n : Int) = 0 := by omega
      have hsz := HG.out.size
      have hrs : (List.range (k + 1)).map sh = (List.range k).map sh ++ [sh k] := by rw [List.range_succ, List.map_append]; rfl
      have HRS := Lib.hid hrs
      obtain ⟨i0, hi0, hz0, hz1, hz2⟩ := info_parts info3
      clear hrs
      by_cases h1 : (k : Int) < m
      · have hs : sh k = q + 1 := by rw [HSH.out, if_pos h1]
        have HS := Lib.hid hs
        have HOA := Lib.hid (own_G HO.out ((G.rf wi).a (.cells #[.int .i64 (q + 1)] 3)))
        clear hs
        go_wp2_with (at_builtin; refine wpList_append_own _ rfl _ _ 24 rfl w.heap.size 3 i0 (.int .i64 0) 1 8 Tryz.underlying24 hi0 hz0 hz1 hz2 rfl (by decide) _ k (iv ((List.range k).map sh)) rfl HOA.out ⟨wi.heap.size, 0, none⟩ 1 1 [.int .i64 (q + 1)] rfl rfl (cell_one_new _ _ _) (by simp [Value.oneCell']) (by unfold maxLen; omega) (by omega) (by simp only [World.alloc, Array.size_push]; omega) ?_; intro v9 w9 hown9 hg9 hnil9)
        go_wp2
        go_roundw
        case rel => exact ⟨k + 1, by omega, by go_num, by rw [HRS.out, iv_snoc, HS.out]; exact hown9, grow_own (HG.out.a _) HOA.out (Nat.le_refl _) hg9⟩
        case measure => simp [intOf] <;> omega
      · have hs : sh k = q := by rw [HSH.out, if_neg h1, Int.add_zero]
        have HS := Lib.hid hs
        have HOA := Lib.hid (own_G HO.out ((G.rf wi).a (.cells #[.int .i64 q] 3)))
        clear hs
        go_wp2_with (at_builtin; refine wpList_append_own _ rfl _ _ 24 rfl w.heap.size 3 i0 (.int .i64 0) 1 8 Tryz.underlying24 hi0 hz0 hz1 hz2 rfl (by decide) _ k (iv ((List.range k).map sh)) rfl HOA.out ⟨wi.heap.size, 0, none⟩ 1 1 [.int .i64 q] rfl rfl (cell_one_new _ _ _) (by simp [Value.oneCell']) (by unfold maxLen; omega) (by omega) (by simp only [World.alloc, Array.size_push]; omega) ?_; intro v9 w9 hown9 hg9 hnil9)
        go_wp2
        go_roundw
        case rel => exact ⟨k + 1, by omega, by go_num, by rw [HRS.out, iv_snoc, HS.out]; exact hown9, grow_own (HG.out.a _) HOA.out (Nat.le_refl _) hg9⟩
        case measure => simp [intOf] <;> omega
    · obtain rfl : k = n := by omega
      have hki : ¬ ((k : Nat) : Int) < k := by omega
      go_wp2_with fail
      go_ret
      exact ⟨_, rfl, HO.out, HG.out⟩
end Go.Proofs.YtnkmcoljijmgpaaGreat

set_option linter.unusedSimpArgs false
set_option linter.unusedVariables false
namespace Go.Proofs.YtnkmcoljijmgpaaGreat
open Go.RowKit Go.Shelf Go.Sort Go.Maps
attribute [local go_sem] Oper.semAt_some
/-- a row of rows of numbers of one's own -/
structure RowsAt (W : World) (B : Nat) (v : Value) (gs : List (List Int)) (cs : List Value) : Prop where
  out : W.ownsRow B 24 1 v gs.length cs
  inn : ∀ i, i < gs.length → W.ownsRow B 3 1 (cs.getD i undef) (gs.getD i []).length (iv (gs.getD i []))
theorem RowsAt.nil (W : World) (B : Nat) : RowsAt W B (.slice none 0 0) [] [] := ⟨World.ownsRow_nil _ _ _ _, fun i h => by simp at h⟩
theorem RowsAt.keepG {W W' : World} {B : Nat} {v : Value} {gs : List (List Int)} {cs : List Value} (h : RowsAt W B v gs cs) (hG : G W W') : RowsAt W' B v gs cs := ⟨own_G h.out hG, fun i hi => own_G (h.inn i hi) hG⟩
theorem RowsAt.len {W : World} {B : Nat} {v : Value} {gs : List (List Int)} {cs : List Value} (h : RowsAt W B v gs cs) : cs.length = gs.length := by have := h.out.1; omega
theorem RowsAt.push {W W' : World} {B : Nat} {v v' u : Value} {gs : List (List Int)} {cs : List Value} {g : List Int} (h : RowsAt W B v gs cs) (ht : W.ownsRow B 3 1 u g.length (iv g)) (ho : W'.ownsRow B 24 1 v' (gs.length + 1) (cs ++ [u])) (hg : W.grownBy W' v.ownBlock) : RowsAt W' B v' (gs ++ [g]) (cs ++ [u]) := by
  have hl := h.len
  refine ⟨by rw [List.length_append]; exact ho, fun i hi => ?_⟩
  rw [List.length_append, List.length_singleton] at hi
  by_cases h1 : i < gs.length
  · rw [getD_app (by omega), getD_app h1]
    exact (h.inn i h1).kept hg (own_own (h.inn i h1) h.out (by decide))
  · rw [getD_last (by omega), getD_last (by omega)]
    exact ht.kept hg (own_own ht h.out (by decide))
theorem rows_read {W : World} {B : Nat} {v : Value} {gs : List (List Int)} {cs : List Value} (h : RowsAt W B v gs cs) : ∃ va vc, v = .slice va gs.length vc ∧ GrpAt W va gs := by
  by_cases h0 : gs.length = 0
  · obtain ⟨va, vc, e⟩ : ∃ va vc, v = .slice va gs.length vc := by
      rcases h.out.2 with ⟨rfl, h1⟩ | ⟨g, cap, cur, rfl, _⟩
      · exact ⟨none, 0, by rw [h0]⟩
      · exact ⟨_, _, rfl⟩
    exact ⟨va, vc, e, fun j hj => by omega⟩
  · obtain ⟨go, ocap, ocur, hov, hbv, hlv, htv⟩ := own_some h.out (by omega)
    refine ⟨_, _, hov, fun j hj => ?_⟩
    obtain ⟨ga, gc, hcs, hig⟩ := own_ints (h.inn j hj)
    have hcl := h.len
    exact ⟨go, ga, gc, rfl, hlv, take_cell hbv htv (k := j) (by omega) (by rw [← hcs]; simp [List.getD_eq_getElem?_getD, show j < cs.length by omega]), hig⟩
theorem racer_named {r : Ra} (hr : raceB r = true) {p : Int} {i : Nat} (hi : i < (runners r p).length) : ∃ q : Nat, q < r.racers.length ∧ r.racers.getD q default = (runners r p).getD i default ∧ idxR r.racers ((runners r p).getD i default).bird = q := by
  have hg : (runners r p).getD i default = (runners r p)[i] := by simp [List.getD_eq_getElem?_getD, hi]
  have hm : (runners r p).getD i default ∈ r.racers := by
    rw [hg]
    exact (runners_sub (List.getElem_mem hi)).1
  obtain ⟨q, h1, h2, h3⟩ := racer_at (l := r.racers) (b := ((runners r p).getD i default).bird) (hasB_mem.2 ⟨_, hm, rfl⟩)
  refine ⟨q, h1, ?_, h3⟩
  refine uniq_eq (uniq_of (race_parts hr)).2 ?_ hm h2
  rw [List.getD_eq_getElem?_getD, List.getElem?_eq_getElem h1]
  exact List.getElem_mem h1
def tieP (first : Bool) (s : Int × Int) (x : Rc) : Bool := decide (x.day = s.1 ∧ x.rank = s.2) && (decide (s.1 = 1) || !first)
def tieK (first : Bool) (rs : List Rc) (s : Int × Int) (k : Nat) : List Int := ((rs.take k).filter (tieP first s)).map Rc.bird
theorem tieK_all (first : Bool) (rs : List Rc) (s : Int × Int) : tieK first rs s rs.length = tieS first rs s := by
  unfold tieK tieS
  rw [List.take_length]
  rfl
theorem tieK_succ (first : Bool) (rs : List Rc) (s : Int × Int) {k : Nat} (h : k < rs.length) : tieK first rs s (k + 1) = if tieP first s (rs.getD k default) = true then tieK first rs s k ++ [(rs.getD k default).bird] else tieK first rs s k := by
  unfold tieK
  rw [List.take_add_one, List.filter_append, List.getElem?_eq_getElem h]
  have e : rs.getD k default = rs[k] := by simp [List.getD_eq_getElem?_getD, h]
  rw [e]
  cases hv : tieP first s rs[k] <;> simp [hv]
theorem tieK_len (first : Bool) (rs : List Rc) (s : Int × Int) (k : Nat) : (tieK first rs s k).length ≤ rs.length := by
  unfold tieK
  rw [List.length_map]
  exact Nat.le_trans (List.length_filter_le _ _) (by rw [List.length_take]; omega)
theorem outT_len (first : Bool) (rs : List Rc) (t : Nat) : (outT first rs t).length ≤ t := by
  unfold outT
  exact Nat.le_trans (List.length_filter_le _ _) (by rw [List.length_map, List.length_range]; exact Nat.le_refl _)
theorem joinL67 {M C : Nat → World → Prop} {P : Prop} (h : ∀ g W, C g W → M g W) (k : (∀ g W, C g W → M g W) → P) : P := k h
def Order67 (w : World) (gs : List (List Int)) (e : Ending) (w' : World) : Prop := ∃ v cs, e = .returned v ∧ RowsAt w' w.heap.size v gs cs ∧ G w w'
theorem key_eq (d k : Nat) (hk : k < 12) : keyT (12 * d + k) = (((d + 1 : Nat) : Int), ((k + 1 : Nat) : Int)) := by
  unfold keyT
  rw [Prod.ext_iff]
  dsimp only
  omega
set_option maxRecDepth 100000 in
set_option maxHeartbeats 16000000 in
theorem order67_any (r : Ra) (p : Nat) (w : World) (h : r.At w) (hr : raceB r = true) (hp : p < r.pools.length) : Calls Tryz.prog 67 #[.agg r.v, .int .i64 (p : Nat)] w (Order67 w (orderL (fuOf r p none 0) [])) := by
  have hrv : r.v = #[.slice r.ra r.racers.length r.rc, .slice r.pa r.pools.length r.pc, .slice r.ta r.protests.length r.tc] := rfl
  have h12 := (uniq_of (race_parts hr)).1
  have hrl := runners_len r p
  have hnl : (namedL r p).length = (runners r p).length := by unfold namedL; rw [List.length_map]
  have HNA := Lib.hid (fun (W : World) (hW : G w W) => naQ0 r p (runners r p).length W (h.keep hW) hnl)
  have HRI := Lib.hid (fun (W : World) (hW : G w W) (b : Int) => racer_idx r.racers r.ra r.rc (.slice r.pa r.pools.length r.pc) (.slice r.ta r.protests.length r.tc) b W ((h.keep hW).rs.row) h.nr)
  have HRN := Lib.hid (fun (i : Nat) (hi : i < (runners r p).length) => racer_named hr hi)
  have heq := order_eq (f := fuOf r p none 0) (runners_uniq hr p) (runners_sorted r p) (fun x hx => by
    have hx2 := (runners_sub hx).1
    have h1 := racer_parts hr hx2
    unfold racerB at h1
    simp only [Bool.and_eq_true] at h1
    have h2 := h1.2.2.1
    unfold rankB at h2
    split at h2
    · rename_i h0
      exact .inl h0
    · unfold isInB at h2
      simp only [Bool.and_eq_true, decide_eq_true_eq] at h2
      exact .inr ⟨by omega, by omega⟩)
  have hPA : poolAt r p = r.pools.getD p default := by unfold poolAt; rw [Int.toNat_natCast]
  have heq2 : orderL (fuOf r p none 0) [] = outT (r.pools.getD p default).first (runners r p) 24 := by rw [← hPA]; exact heq
  rw [heq2]
  have HPP : Hid (∀ w' v cs, RowsAt w' w.heap.size v (outT (r.pools.getD p default).first (runners r p) 24) cs → G w w' → Order67 w (outT (r.pools.getD p default).first (runners r p) 24) (.returned v) w') := fun w' v cs a b => ⟨v, cs, rfl, a, b⟩
  generalize Order67 w (outT (r.pools.getD p default).first (runners r p) 24) = PP at *
  clear heq heq2
  have HNM : Hid (∀ i, i < (runners r p).length → (namedL r p).getD i 0 = ((runners r p).getD i default).bird) := fun i hi => by
    unfold namedL
    rw [List.getD_eq_getElem?_getD, List.getElem?_map, List.getElem?_eq_getElem hi, List.getD_eq_getElem?_getD, List.getElem?_eq_getElem hi]
    rfl
  rcases h.ps.row with hx | ⟨gp, op, hpe, hgp, hcell⟩
  · omega
  have hcl := hcell p hp 5 (by omega)
  obtain ⟨first, hfirst⟩ : ∃ first, first = (r.pools.getD p default).first := ⟨_, rfl⟩
  have HPF : Hid (w.cell? ⟨gp, op + p * 6 + 5, none⟩ = some (.bool first)) := by show _ = _; rw [hcl, hfirst]; rfl
  rw [← hfirst] at HPP
  have HROW := Lib.hid h.rs.row
  obtain ⟨rs, hrs⟩ : ∃ rs, rs = runners r p := ⟨_, rfl⟩
  obtain ⟨NL, hNL⟩ : ∃ NL, NL = namedL r p := ⟨_, rfl⟩
  rw [← hrs] at HNA HRN HPP HNM hrl
  rw [← hNL] at HNA HNM
  have hr12 : rs.length ≤ 12 := by omega
  have hnl2 : NL.length = rs.length := by rw [hNL, hrs]; exact hnl
  have HNL := Lib.hid hnl2
  have HPE := Lib.hid hpe
  have hpi : (p : Int) < r.pools.length := by omega
  obtain ⟨W1, hW1⟩ : ∃ W1, W1 = w.alloc (.cells #[.slice r.ra r.racers.length r.rc, .slice r.pa r.pools.length r.pc, .slice r.ta r.protests.length r.tc] 26) := ⟨_, rfl⟩
  have g1 : G w W1 := by rw [hW1]; exact (G.rf _).a _
  have B0 : Blk W1 w.heap.size 26 #[.slice r.ra r.racers.length r.rc, .slice r.pa r.pools.length r.pc, .slice r.ta r.protests.length r.tc] := by rw [hW1]; exact Blk.new _ _ _
  rw [hrv] at HNA ⊢
  clear hrs hNL hnl hnl2 hpe hcell hcl hfirst hPA h hr hrv hrl h12
  obtain ⟨i0, hi0, hz0, hz1, hz2⟩ := info_parts info3
  obtain ⟨j0, hj0, hy0, hy1, hy2⟩ := info_parts info24
  have m0 := B0.cell 0
  have m1 := B0.cell 1
  have m2 := B0.cell 2
  have l0 := B0.lt
  go_enter Tryz.func67, Tryz.ntmps67
  go_upto_region 1 with fail
  change Code.wp _ _ _ _ (w.alloc (.cells #[.slice r.ra r.racers.length r.rc, .slice r.pa r.pools.length r.pc, .slice r.ta r.protests.length r.tc] 26))
  rw [← hW1]
  clear hW1
  go_wp2_with (go_at_call 16; refine (HNA.out _ g1).mono ?_; rintro e w2 ⟨hG2, na, nc, rfl, hni⟩)
  clear m0 m1 m2 l0 HNA
  have g2 := g1.t hG2
  have HB2 := Lib.hid (B0.keep hG2)
  have HNI := Lib.hid hni
  have hlo : w.heap.size ≤ w2.heap.size := g2.size
  clear hni hG2 B0 g1
  go_loopw [6, 7] (fun v i wr => ∃ (d dd : Nat) (OO : List (List Int)) (cs : List Value), d + 1 ≤ dd ∧ dd ≤ d + 1 ∧ d ≤ 2 ∧ i = .int .i64 dd ∧ Hid (OO = outT first rs (12 * d)) ∧ Hid (RowsAt wr w2.heap.size v OO cs) ∧ Hid (G w2 wr)) (fun _ i _ => 3 - (intOf i).toNat)
  case atStart => exact ⟨0, 1, [], [], by omega, by omega, by omega, rfl, rfl, RowsAt.nil _ _, G.rf _⟩
  case round =>
    obtain ⟨d, dd, OO, cs, hd0, hd1, hd2, rfl, HOQ, HO, HG⟩ := hrel
    obtain ⟨wd, rfl⟩ : ∃ wd, wd = wr := ⟨_, rfl⟩
    by_cases hlt : d < 2
    rotate_left
    · obtain rfl : d = 2 := by omega
      have hdi : ¬ (dd : Int) ≤ 2 := by omega
      go_wp2_with fail
      rw [HOQ.out] at HO
      have hF := HPP.out _ _ _ (⟨own_weaken HO.out.out hlo, fun i hi => own_weaken (HO.out.inn i hi) hlo⟩) (g2.t HG.out)
      first | exact hF | (go_ret; exact hF)
    have hdi : (dd : Int) ≤ 2 := by omega
    go_wp2_with fail
    go_loopw [6, 8] (fun v i wr => ∃ (t tt : Nat) (OO : List (List Int)) (cs : List Value), t + 1 ≤ tt ∧ tt ≤ t + 1 ∧ t ≤ 12 ∧ i = .int .i64 tt ∧ Hid (OO = outT first rs (12 * d + t)) ∧ Hid (RowsAt wr w2.heap.size v OO cs) ∧ Hid (G w2 wr)) (fun _ i _ => 13 - (intOf i).toNat)
    case atStart => exact ⟨0, 1, OO, cs, by omega, by omega, by omega, rfl, HOQ.out, HO.out, HG.out⟩
    case round =>
      clear HO HG HOQ cs OO
      obtain ⟨t, tt, OO, cs, ht0, ht1, ht12, rfl, HOQ, HO, HG⟩ := hrel
      obtain ⟨wt, rfl⟩ : ∃ wt, wt = wr := ⟨_, rfl⟩
      by_cases htl : t < 12
      rotate_left
      · obtain rfl : t = 12 := by omega
        have hti : ¬ (tt : Int) ≤ 12 := by omega
        go_wp2_with fail
        go_roundw
        case rel => exact ⟨d + 1, dd + 1, OO, cs, by omega, by omega, by omega, by go_num, by rw [show 12 * (d + 1) = 12 * d + 12 by omega]; exact HOQ.out, HO.out, HG.out⟩
        case measure => simp [intOf] <;> omega
      have hti : (tt : Int) ≤ 12 := by omega
      have HOS := Lib.hid (outT_succ first rs (12 * d + t))
      have HOL := outT_len first rs (12 * d + t)
      rw [← HOQ.out] at HOL HOS
      have hKE : keyT (12 * d + t) = ((dd : Int), (tt : Int)) := by rw [key_eq d t htl, show dd = d + 1 by omega, show tt = t + 1 by omega]
      rw [hKE] at HOS
      clear hKE
      obtain ⟨va0, vc0, rfl⟩ := own_slice HO.out.out
      go_wp2_with fail
      go_loopw [9, 10] (fun v i wr => ∃ (k : Nat) (TK : List Int), k ≤ rs.length ∧ i = .int .i64 k ∧ Hid (TK = tieK first rs ((dd : Int), (tt : Int)) k) ∧ Hid (wr.ownsRow wt.heap.size 3 1 v TK.length (iv TK)) ∧ Hid (G wt wr)) (fun _ i _ => rs.length - (intOf i).toNat)
      case atStart => exact ⟨0, [], Nat.zero_le _, rfl, rfl, World.ownsRow_nil _ _ _ _, G.rf _⟩
      case round =>
        obtain ⟨k, TK, hk, rfl, HTK, HT, HGT⟩ := hrel
        obtain ⟨wk, rfl⟩ : ∃ wk, wk = wr := ⟨_, rfl⟩
        obtain ⟨ta0, tc0, rfl⟩ := own_slice HT.out
        by_cases hkl : k < rs.length
        rotate_left
        · obtain rfl : k = rs.length := by omega
          have hki : ¬ ((rs.length : Nat) : Int) < rs.length := by omega
          rw [tieK_all] at HTK
          have hTl : TK.length ≤ rs.length := by rw [HTK.out, ← tieK_all]; exact tieK_len _ _ _ _
          rw [← HTK.out] at HOS
          clear HTK
          have gk2 := HG.out.t HGT.out
          have HO2 := Lib.hid (HO.out.keepG HGT.out)
          have HT2 := Lib.hid (own_weaken HT.out HG.out.size)
          clear HT
          by_cases h0 : TK.length = 0
          · have hb : TK.isEmpty = true := by rw [List.isEmpty_iff]; exact List.length_eq_zero_iff.1 h0
            have HOE : Hid (outT first rs (12 * d + t + 1) = OO) := by show _ = _; rw [HOS.out, if_pos hb]
            clear HOS hb
            have hz : ¬ 0 < TK.length := by omega
            have hzz : decide ((0 : Int) < (TK.length : Int)) = false := by rw [decide_eq_false_iff_not]; omega
            go_wp2_with fail
            go_roundw
            case rel => exact ⟨t + 1, tt + 1, OO, cs, by omega, by omega, by omega, by go_num, by rw [show 12 * d + (t + 1) = 12 * d + t + 1 by omega]; exact HOE.out.symm, HO2.out, gk2⟩
            case measure => simp [intOf] <;> omega
          · have hb : ¬ TK.isEmpty = true := by rw [List.isEmpty_iff]; exact fun e => h0 (by rw [e]; rfl)
            have HOE : Hid (outT first rs (12 * d + t + 1) = OO ++ [TK]) := by show _ = _; rw [HOS.out, if_neg hb]
            clear HOS hb
            have hz : 0 < TK.length := by omega
            have hzz : decide ((0 : Int) < (TK.length : Int)) = true := by rw [decide_eq_true_iff]; omega
            clear h0
            have HOA := Lib.hid (own_G HO2.out.out ((G.rf wk).a (.cells #[.slice ta0 TK.length tc0] 24)))
            go_wp2_with (at_builtin; refine wpList_append_own _ rfl _ _ 49 rfl w2.heap.size 24 j0 (.slice none 0 0) 1 24 Tryz.underlying49 hj0 hy0 hy1 hy2 rfl (by decide) _ OO.length cs rfl HOA.out ⟨wk.heap.size, 0, none⟩ 1 1 [.slice ta0 TK.length tc0] rfl rfl (cell_one_new _ _ _) (by simp [Value.oneCell']) (by unfold maxLen; omega) (by omega) (by have h1 := gk2.size; simp only [World.alloc, Array.size_push]; omega) ?_; intro v9 w9 hown9 hg9 hnil9)
            have ga : G wk (wk.alloc (.cells #[.slice ta0 TK.length tc0] 24)) := (G.rf _).a _
            have HR9 := Lib.hid ((HO2.out.keepG ga).push (own_G HT2.out ga) hown9 hg9)
            have HG9 := Lib.hid (grow_own (gk2.t ga) HOA.out (Nat.le_refl _) hg9)
            clear hown9 hg9 HOA ga
            go_wp2_with fail
            go_roundw
            case rel => exact ⟨t + 1, tt + 1, OO ++ [TK], _, by omega, by omega, by omega, by go_num, by rw [show 12 * d + (t + 1) = 12 * d + t + 1 by omega]; exact HOE.out.symm, HR9.out, HG9.out⟩
            case measure => simp [intOf] <;> omega
        have hki : (k : Int) < rs.length := by omega
        have gk := g2.t (HG.out.t HGT.out)
        have gk2 := HG.out.t HGT.out
        obtain ⟨q, hq, hqe, hqi⟩ := HRN.out k hkl
        rcases HROW.out with hx | ⟨gr, ofr, hre, hgr, hrc⟩
        · omega
        have hcl := hrc q hq
        rw [hqe] at hcl
        have HTS := Lib.hid (tieK_succ first rs ((dd : Int), (tt : Int)) hkl)
        have HTL := tieK_len first rs ((dd : Int), (tt : Int)) k
        have hnm := HNM.out k hkl
        rcases HNI.out with hx | ⟨gn, ofn, rfl, hgn, hnc⟩
        · rw [hx] at HNL; have := HNL.out; simp at this; omega
        have n0 := hnc k (by rw [HNL.out]; exact hkl)
        rw [hnm] at n0
        have HQI := Lib.hid hqi
        obtain ⟨y, hy⟩ : ∃ y, y = rs.getD k default := ⟨_, rfl⟩
        rw [← hy] at hcl n0 HTS HQI
        clear hrc hqe hqi hnm hnc hy
        obtain ⟨zbird, zowner, zrank, zday, zpa, zpc, zpools⟩ := y
        unfold Rc.v at hcl
        dsimp only at hcl n0 HTS HQI
        have q0 : w.cell? ⟨gr, ofr + q * 5, none⟩ = some (.int .i64 zbird) := hcl 0 (by omega)
        have q1 : w.cell? ⟨gr, ofr + q * 5 + 1, none⟩ = some (.int .i64 zowner) := hcl 1 (by omega)
        have q2 : w.cell? ⟨gr, ofr + q * 5 + 2, none⟩ = some (.int .i64 zrank) := hcl 2 (by omega)
        have q3 : w.cell? ⟨gr, ofr + q * 5 + 3, none⟩ = some (.int .i64 zday) := hcl 3 (by omega)
        have q4 : w.cell? ⟨gr, ofr + q * 5 + 4, none⟩ = some (.slice zpa zpools.length zpc) := hcl 4 (by omega)
        clear hcl
        have hqii : (q : Int) < r.racers.length := by omega
        have HRE := Lib.hid hre
        have HRI2 : Hid (∀ W, G w W → Calls Tryz.prog 43 #[.agg #[.slice r.ra r.racers.length r.rc, .slice r.pa r.pools.length r.pc, .slice r.ta r.protests.length r.tc], .int .i64 zbird] W fun e w' => e = .returned (.int .i64 (q : Nat)) ∧ G W w') := fun W hW => by
          have := HRI.out W hW zbird
          rw [HQI.out] at this
          exact this
        clear hre
        go_upto_region 13 with fail
        refine wp_region_Y (S := fun W' => G wk W') 11 12 rfl (by kernel_rfl) (G.rf _).d (fun hS => ?_)
        have gd : G wk wk.drew := (G.rf _).d
        generalize wk.drew = WD at *
        refine wpAnyY_take (i := 0) (v := ?_) rfl (by kernel_rfl) (by kernel_rfl) (by kernel_rfl) (by kernel_rfl) (fun _ _ _ h => h) (Or.inl ⟨by kernel_rfl, ?_⟩) hS ?_
        rotate_left
        · intro w' hSw; go_simp; with_reducible rfl
        try simp only [Act.put, List.getElem_toArray, List.getElem_cons_zero, List.getElem_cons_succ, List.setIfInBounds_toArray, List.set_cons_zero, List.set_cons_succ]
        refine wpAnyY_take (i := 1) (v := ?_) rfl (by kernel_rfl) (by kernel_rfl) (by kernel_rfl) (by kernel_rfl) (fun _ _ _ h => h) (Or.inl ⟨by kernel_rfl, ?_⟩) hS ?_
        rotate_left
        · intro w' hSw; have s0 := (HB2.out.keep (gk2.t hSw)).cell 0; rw [HRE.out] at s0; have s3 := (HB2.out.keep (gk2.t hSw)).lt; go_simp; with_reducible rfl
        try simp only [Act.put, List.getElem_toArray, List.getElem_cons_zero, List.getElem_cons_succ, List.setIfInBounds_toArray, List.set_cons_zero, List.set_cons_succ]
        refine wpAnyY_take (i := 2) (v := ?_) rfl (by kernel_rfl) (by kernel_rfl) (by kernel_rfl) (by kernel_rfl) (fun _ _ _ h => h) (Or.inl ⟨by kernel_rfl, ?_⟩) hS ?_
        rotate_left
        · intro w' hSw; have s0 := (HB2.out.keep (gk2.t hSw)).cell 0; have s1 := (HB2.out.keep (gk2.t hSw)).cell 1; have s2 := (HB2.out.keep (gk2.t hSw)).cell 2; have s3 := (HB2.out.keep (gk2.t hSw)).lt; go_simp; with_reducible rfl
        try simp only [Act.put, List.getElem_toArray, List.getElem_cons_zero, List.getElem_cons_succ, List.setIfInBounds_toArray, List.set_cons_zero, List.set_cons_succ]
        refine wpAnyY_take (i := 3) (v := ?_) rfl (by kernel_rfl) (by kernel_rfl) (by kernel_rfl) (by kernel_rfl) (fun _ _ _ h => h) (Or.inl ⟨by kernel_rfl, ?_⟩) hS ?_
        rotate_left
        · intro w' hSw; go_simp; with_reducible rfl
        try simp only [Act.put, List.getElem_toArray, List.getElem_cons_zero, List.getElem_cons_succ, List.setIfInBounds_toArray, List.set_cons_zero, List.set_cons_succ]
        refine wpAnyY_take (i := 4) (v := ?_) rfl (by kernel_rfl) (by kernel_rfl) (by kernel_rfl) (by kernel_rfl) (fun _ _ _ h => h) (Or.inl ⟨by kernel_rfl, ?_⟩) hS ?_
        rotate_left
        · intro w' hSw; go_simp; with_reducible rfl
        try simp only [Act.put, List.getElem_toArray, List.getElem_cons_zero, List.getElem_cons_succ, List.setIfInBounds_toArray, List.set_cons_zero, List.set_cons_succ]
        refine wpAnyY_take (i := 5) (v := ?_) rfl (by kernel_rfl) (by kernel_rfl) (by kernel_rfl) (by kernel_rfl) (fun _ _ _ h => h) (Or.inl ⟨by kernel_rfl, ?_⟩) hS ?_
        rotate_left
        · intro w' hSw; go_simp; with_reducible rfl
        try simp only [Act.put, List.getElem_toArray, List.getElem_cons_zero, List.getElem_cons_succ, List.setIfInBounds_toArray, List.set_cons_zero, List.set_cons_succ]
        refine wpAnyY_take (i := 6) (v := ?_) rfl (by kernel_rfl) (by kernel_rfl) (by kernel_rfl) (by kernel_rfl) (fun _ _ _ h => h) (Or.inl ⟨by kernel_rfl, ?_⟩) hS ?_
        rotate_left
        · intro w' hSw; have s0 := ((bcellB (gk2.t hSw)).1 gn _ hgn).trans n0; have s1 : gn < w'.heap.size := Nat.lt_of_lt_of_le hgn (gk2.t hSw).size; go_simp; with_reducible rfl
        try simp only [Act.put, List.getElem_toArray, List.getElem_cons_zero, List.getElem_cons_succ, List.setIfInBounds_toArray, List.set_cons_zero, List.set_cons_succ]
        apply joinL67 (C := fun GX W => wk.heap.size ≤ GX ∧ Blk W GX 60 #[.int .i64 0, .int .i64 0, .int .i64 0, .int .i64 0, .slice none 0 0] ∧ G wk W)
        rotate_left
        · intro HJ
          refine wpAnyY_twoSW (i := 7) (j := 10) (by kernel_rfl) rfl rfl (by kernel_rfl) (by kernel_rfl) (fun K7 hK7 => ?_) (fun K10 hK10 => ?_)
          · go_simp
            refine (HRI2.out _ (gk.t gd)).mono ?_
            rintro e w3 ⟨rfl, hG3⟩
            replace gd := gd.t hG3
            refine hK7.out _ _ gd (fun hS => ?_)
            clear hK7
            try simp only [Act.put, List.getElem_toArray, List.getElem_cons_zero, List.getElem_cons_succ, List.setIfInBounds_toArray, List.set_cons_zero, List.set_cons_succ]
            refine wpAnyY_take (i := 8) (v := ?_) rfl (by kernel_rfl) (by kernel_rfl) (by kernel_rfl) (by kernel_rfl) (fun _ _ _ h => h) (Or.inl ⟨by kernel_rfl, ?_⟩) hS ?_
            rotate_left
            · intro w' hSw; go_simp; with_reducible rfl
            try simp only [Act.put, List.getElem_toArray, List.getElem_cons_zero, List.getElem_cons_succ, List.setIfInBounds_toArray, List.set_cons_zero, List.set_cons_succ]
            refine wpAnyY_take (i := 9) (v := ?_) rfl (by kernel_rfl) (by kernel_rfl) (by kernel_rfl) (by kernel_rfl) (fun _ _ _ h => h) (Or.inl ⟨by kernel_rfl, ?_⟩) hS ?_
            rotate_left
            · intro w' hSw; have e := fun q => (bcellB (gk.t hSw)).1 gr q hgr; have s0 := (e _).trans q0; have s1 := (e _).trans q1; have s2 := (e _).trans q2; have s3 := (e _).trans q3; have s4 := (e _).trans q4; have s6 : gr < w'.heap.size := Nat.lt_of_lt_of_le hgr (gk.t hSw).size; clear e; go_simp; with_reducible rfl
            try simp only [Act.put, List.getElem_toArray, List.getElem_cons_zero, List.getElem_cons_succ, List.setIfInBounds_toArray, List.set_cons_zero, List.set_cons_succ]
            refine wpAnyY_oneSW (i := 10) (by kernel_rfl) rfl (by kernel_rfl) (fun K10 hK10 => ?_)
            go_simp
            have gE := gd.a (.cells #[.int .i64 0, .int .i64 0, .int .i64 0, .int .i64 0, .slice none 0 0] 60)
            refine hK10.out _ _ gE (fun hS => ?_)
            clear hK10
            try simp only [Act.put, List.getElem_toArray, List.getElem_cons_zero, List.getElem_cons_succ, List.setIfInBounds_toArray, List.set_cons_zero, List.set_cons_succ]
            have bX := Blk.new w3 60 #[.int .i64 0, .int .i64 0, .int .i64 0, .int .i64 0, .slice none 0 0]
            have lX := gd.size
            obtain ⟨GX, hGX⟩ : ∃ GX, GX = w3.heap.size := ⟨_, rfl⟩
            rw [← hGX] at bX lX ⊢
            clear hGX
            generalize w3.alloc (.cells #[.int .i64 0, .int .i64 0, .int .i64 0, .int .i64 0, .slice none 0 0] 60) = WE at *
            exact HJ GX WE ⟨lX, bX, gE⟩
          · go_simp
            have gE := gd.a (.cells #[.int .i64 0, .int .i64 0, .int .i64 0, .int .i64 0, .slice none 0 0] 60)
            refine hK10.out _ _ gE (fun hS => ?_)
            clear hK10
            try simp only [Act.put, List.getElem_toArray, List.getElem_cons_zero, List.getElem_cons_succ, List.setIfInBounds_toArray, List.set_cons_zero, List.set_cons_succ]
            have bX := Blk.new WD 60 #[.int .i64 0, .int .i64 0, .int .i64 0, .int .i64 0, .slice none 0 0]
            have lX := gd.size
            obtain ⟨GX, hGX⟩ : ∃ GX, GX = WD.heap.size := ⟨_, rfl⟩
            rw [← hGX] at bX lX ⊢
            clear hGX
            generalize WD.alloc (.cells #[.int .i64 0, .int .i64 0, .int .i64 0, .int .i64 0, .slice none 0 0] 60) = WE at *
            refine wpAnyY_oneSW (i := 7) (by kernel_rfl) rfl (by kernel_rfl) (fun K7 hK7 => ?_)
            go_simp
            refine (HRI2.out _ (gk.t gE)).mono ?_
            rintro e w3 ⟨rfl, hG3⟩
            replace gE := gE.t hG3
            refine hK7.out _ _ gE (fun hS => ?_)
            clear hK7
            try simp only [Act.put, List.getElem_toArray, List.getElem_cons_zero, List.getElem_cons_succ, List.setIfInBounds_toArray, List.set_cons_zero, List.set_cons_succ]
            refine wpAnyY_take (i := 8) (v := ?_) rfl (by kernel_rfl) (by kernel_rfl) (by kernel_rfl) (by kernel_rfl) (fun _ _ _ h => h) (Or.inl ⟨by kernel_rfl, ?_⟩) hS ?_
            rotate_left
            · intro w' hSw; go_simp; with_reducible rfl
            try simp only [Act.put, List.getElem_toArray, List.getElem_cons_zero, List.getElem_cons_succ, List.setIfInBounds_toArray, List.set_cons_zero, List.set_cons_succ]
            refine wpAnyY_take (i := 9) (v := ?_) rfl (by kernel_rfl) (by kernel_rfl) (by kernel_rfl) (by kernel_rfl) (fun _ _ _ h => h) (Or.inl ⟨by kernel_rfl, ?_⟩) hS ?_
            rotate_left
            · intro w' hSw; have e := fun q => (bcellB (gk.t hSw)).1 gr q hgr; have s0 := (e _).trans q0; have s1 := (e _).trans q1; have s2 := (e _).trans q2; have s3 := (e _).trans q3; have s4 := (e _).trans q4; have s6 : gr < w'.heap.size := Nat.lt_of_lt_of_le hgr (gk.t hSw).size; clear e; go_simp; with_reducible rfl
            try simp only [Act.put, List.getElem_toArray, List.getElem_cons_zero, List.getElem_cons_succ, List.setIfInBounds_toArray, List.set_cons_zero, List.set_cons_succ]
            exact HJ GX w3 ⟨lX, bX.keep hG3, gE⟩
        intro GX Wf hJ
        obtain ⟨hGX, bX, gz⟩ := hJ
        clear hS gd HRI2
        refine wpAnyY_oneW (i := 11) (by kernel_rfl) rfl (by kernel_rfl) (by kernel_rfl) (fun K11 hK11 => ?_)
        refine wp_store60 GX (.tmp 11) (.tmp 38) (OLD := #[.int .i64 0, .int .i64 0, .int .i64 0, .int .i64 0, .slice none 0 0]) (NEW := #[.int .i64 zbird, .int .i64 zowner, .int .i64 zrank, .int .i64 zday, .slice zpa zpools.length zpc]) ⟨_, _, _, _, _, _, _, rfl⟩ ⟨_, _, _, _, _, _, _, rfl⟩ rfl rfl rfl bX (fun WX bP hFX hGGX => ?_)
        refine hK11.out _ _ ?_
        clear hK11
        try simp only [Act.put, List.getElem_toArray, List.getElem_cons_zero, List.getElem_cons_succ, List.setIfInBounds_toArray, List.set_cons_zero, List.set_cons_succ]
        have gX : G wk WX := hGGX wk hGX gz
        clear hFX hGGX bX gz hGX
        refine wpAnyY_done (by kernel_rfl) ?_ _
        have m2 := bP.cell 2
        have m3 := bP.cell 3
        have lX := bP.lt
        have HBW : Hid (Blk WX w.heap.size 26 #[.slice r.ra r.racers.length r.rc, .slice r.pa r.pools.length r.pc, .slice r.ta r.protests.length r.tc]) := HB2.out.keep (gk2.t gX)
        have n1 : WX.cell? ⟨gn, ofn + k, none⟩ = some (.int .i64 zbird) := ((bcellB (gk2.t gX)).1 gn _ hgn).trans n0
        have ln : gn < WX.heap.size := Nat.lt_of_lt_of_le hgn (gk2.t gX).size
        have HTX := Lib.hid (own_G HT.out gX)
        have HGX := Lib.hid (HGT.out.t gX)
        rw [← HTK.out] at HTS HTL
        clear q0 q1 q2 q3 q4 n0 bP HT HGT HTK gk2
        by_cases a1 : zday = (dd : Int)
        rotate_left
        · have b1 : (zday == (dd : Int)) = false := by simpa using a1
          have HTE : Hid (tieK first rs ((dd : Int), (tt : Int)) (k + 1) = TK) := by
            show _ = _
            rw [HTS.out, if_neg]
            unfold tieP
            simp [a1]
          clear HTS
          go_wp2_with fail
          go_roundw
          case rel => exact ⟨k + 1, TK, by omega, by go_num, HTE.out.symm, HTX.out, HGX.out⟩
          case measure => simp [intOf] <;> omega
        by_cases a2 : zrank = (tt : Int)
        rotate_left
        · have b1 : (zday == (dd : Int)) = true := by simpa using a1
          have b2 : (zrank == (tt : Int)) = false := by simpa using a2
          have HTE : Hid (tieK first rs ((dd : Int), (tt : Int)) (k + 1) = TK) := by
            show _ = _
            rw [HTS.out, if_neg]
            unfold tieP
            simp [a2]
          clear HTS a1
          go_wp2_with fail
          go_roundw
          case rel => exact ⟨k + 1, TK, by omega, by go_num, HTE.out.symm, HTX.out, HGX.out⟩
          case measure => simp [intOf] <;> omega
        have b1 : (zday == (dd : Int)) = true := by simpa using a1
        have b2 : (zrank == (tt : Int)) = true := by simpa using a2
        by_cases a3 : d = 0
        · have e1 : dd = 1 := by omega
          have b3 : ((dd : Int) == 1) = true := by rw [e1]; rfl
          have HTE : Hid (tieK first rs ((dd : Int), (tt : Int)) (k + 1) = TK ++ [zbird]) := by
            show _ = _
            rw [HTS.out, if_pos]
            unfold tieP
            simp [a1, a2, e1]
          clear HTS a1 a2 e1
          have HOA := Lib.hid (own_G HTX.out ((G.rf WX).a (.cells #[.int .i64 zbird] 3)))
          go_wp2_with (at_builtin; refine wpList_append_own _ rfl _ _ 24 rfl wt.heap.size 3 i0 (.int .i64 0) 1 8 Tryz.underlying24 hi0 hz0 hz1 hz2 rfl (by decide) _ TK.length (iv TK) rfl HOA.out ⟨WX.heap.size, 0, none⟩ 1 1 [.int .i64 zbird] rfl rfl (cell_one_new _ _ _) (by simp [Value.oneCell']) (by unfold maxLen; omega) (by omega) (by have h1 := HGX.out.size; simp only [World.alloc, Array.size_push]; omega) ?_; intro v9 w9 hown9 hg9 hnil9)
          have HG9 := Lib.hid (grow_own (HGX.out.a (.cells #[.int .i64 zbird] 3)) HOA.out (Nat.le_refl _) hg9)
          have HN9 := Lib.hid hown9
          clear hown9 hg9 HOA
          go_wp2_with fail
          go_roundw
          case rel => exact ⟨k + 1, TK ++ [zbird], by omega, by go_num, HTE.out.symm, by rw [List.length_append, iv_snoc]; exact HN9.out, HG9.out⟩
          case measure => simp [intOf] <;> omega
        · have e1 : dd = 2 := by omega
          have b3 : ((dd : Int) == 1) = false := by rw [e1]; rfl
          have m1 := HBW.out.cell 1
          rw [HPE.out] at m1
          have lb := HBW.out.lt
          have p5 : WX.cell? ⟨gp, op + p * 6 + 5, none⟩ = some (.bool first) := ((bcellB (gk.t gX)).1 gp _ hgp).trans HPF.out
          have lp : gp < WX.heap.size := Nat.lt_of_lt_of_le hgp (gk.t gX).size
          cases first
          · have HTE : Hid (tieK false rs ((dd : Int), (tt : Int)) (k + 1) = TK ++ [zbird]) := by
              show _ = _
              rw [HTS.out, if_pos]
              unfold tieP
              simp [a1, a2, e1]
            clear HTS a1 a2 e1
            have HOA := Lib.hid (own_G HTX.out ((G.rf WX).a (.cells #[.int .i64 zbird] 3)))
            go_wp2_with (at_builtin; refine wpList_append_own _ rfl _ _ 24 rfl wt.heap.size 3 i0 (.int .i64 0) 1 8 Tryz.underlying24 hi0 hz0 hz1 hz2 rfl (by decide) _ TK.length (iv TK) rfl HOA.out ⟨WX.heap.size, 0, none⟩ 1 1 [.int .i64 zbird] rfl rfl (cell_one_new _ _ _) (by simp [Value.oneCell']) (by unfold maxLen; omega) (by omega) (by have h1 := HGX.out.size; simp only [World.alloc, Array.size_push]; omega) ?_; intro v9 w9 hown9 hg9 hnil9)
            have HG9 := Lib.hid (grow_own (HGX.out.a (.cells #[.int .i64 zbird] 3)) HOA.out (Nat.le_refl _) hg9)
            have HN9 := Lib.hid hown9
            clear hown9 hg9 HOA
            go_wp2_with fail
            go_roundw
            case rel => exact ⟨k + 1, TK ++ [zbird], by omega, by go_num, HTE.out.symm, by rw [List.length_append, iv_snoc]; exact HN9.out, HG9.out⟩
            case measure => simp [intOf] <;> omega
          · have HTE : Hid (tieK true rs ((dd : Int), (tt : Int)) (k + 1) = TK) := by
              show _ = _
              rw [HTS.out, if_neg]
              unfold tieP
              simp [e1]
            clear HTS a1 a2 e1
            go_wp2_with fail
            go_roundw
            case rel => exact ⟨k + 1, TK, by omega, by go_num, HTE.out.symm, HTX.out, HGX.out⟩
            case measure => simp [intOf] <;> omega
end Go.Proofs.YtnkmcoljijmgpaaGreat

