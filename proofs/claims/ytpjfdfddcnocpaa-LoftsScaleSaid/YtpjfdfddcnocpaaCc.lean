import Derived.Test.YtpjfdfddcnocpaaCb
set_option linter.unusedSimpArgs false
set_option linter.unusedVariables false
namespace Go.Proofs.Ytpjfdfddcnocpaa
open Go.RowKit

structure Sv where
  loft : Int
  kind : Int
  xl : Int
  xh : Int
  yl : Int
  yh : Int
  ax : Int
  ay : Int
  dl : Int
  dh : Int
instance : Inhabited Sv := ⟨⟨0, 0, 0, 0, 0, 0, 0, 0, 0, 0⟩⟩

def SvCells (w : World) (b o : Nat) (s : Sv) : Prop :=
  w.cell? ⟨b, o, none⟩ = some (.int .i64 s.loft) ∧ w.cell? ⟨b, o + 1, none⟩ = some (.int .i64 s.kind) ∧ w.cell? ⟨b, o + 2, none⟩ = some (.int .i64 s.xl) ∧ w.cell? ⟨b, o + 3, none⟩ = some (.int .i64 s.xh) ∧
  w.cell? ⟨b, o + 4, none⟩ = some (.int .i64 s.yl) ∧ w.cell? ⟨b, o + 5, none⟩ = some (.int .i64 s.yh) ∧ w.cell? ⟨b, o + 6, none⟩ = some (.int .i64 s.ax) ∧ w.cell? ⟨b, o + 7, none⟩ = some (.int .i64 s.ay) ∧
  w.cell? ⟨b, o + 8, none⟩ = some (.int .i64 s.dl) ∧ w.cell? ⟨b, o + 9, none⟩ = some (.int .i64 s.dh)

def SvsAt (w : World) (a : Option Addr) (l : List Sv) : Prop := l = [] ∨ ∃ b off, a = some ⟨b, off, none⟩ ∧ b < w.heap.size ∧ ∀ k, k < l.length → SvCells w b (off + k * 10) (l.getD k default)

theorem SvCells.below {w w' : World} {b o : Nat} {s : Sv} (h : SvCells w b o s) (hb : G w w') (hlt : b < w.heap.size) : SvCells w' b o s := by
  obtain ⟨h0, h1, h2, h3, h4, h5, h6, h7, h8, h9⟩ := h
  have hc := (bcellB hb).1
  exact ⟨(hc _ _ hlt).trans h0, (hc _ _ hlt).trans h1, (hc _ _ hlt).trans h2, (hc _ _ hlt).trans h3, (hc _ _ hlt).trans h4, (hc _ _ hlt).trans h5, (hc _ _ hlt).trans h6, (hc _ _ hlt).trans h7, (hc _ _ hlt).trans h8, (hc _ _ hlt).trans h9⟩

theorem SvsAt.below {w w' : World} {a : Option Addr} {l : List Sv} (h : SvsAt w a l) (hb : G w w') : SvsAt w' a l := by
  rcases h with rfl | ⟨b, off, rfl, hlt, hc⟩
  · exact .inl rfl
  · exact .inr ⟨b, off, rfl, Nat.lt_of_lt_of_le hlt hb.size, fun k hk => (hc k hk).below hb hlt⟩

def svOk (cols : Int) (rows : Nat) (lofts : Int) (s : Sv) : Bool := validSurveyB cols rows lofts s.loft s.kind s.xl s.xh s.yl s.yh s.ax s.ay s.dl s.dh

def checkE (north cols : Int) (east : List Int) (lofts : Int) (svs : List Sv) (wrong : Int) : Int :=
  if validMapB north cols east lofts wrong = false then 20
  else if svs.length > 16 then 21
  else if svs.all (svOk cols east.length lofts) then 0 else 21

theorem vm_bounds {north cols lofts wrong : Int} {east : List Int} (h : validMapB north cols east lofts wrong = true) :
    (1 ≤ cols ∧ cols ≤ 10) ∧ (1 ≤ lofts ∧ lofts ≤ 8) ∧ (0 ≤ wrong ∧ wrong ≤ 3) ∧ (1 ≤ north ∧ north ≤ 2000000) ∧ (1 ≤ east.length ∧ east.length ≤ 10) ∧ ∀ x ∈ east, 1 ≤ x ∧ x ≤ 2000000 := by
  simp [validMapB, isScaleB, isInB] at h
  obtain ⟨h1, h2, h3, h4, h5, h6⟩ := h
  exact ⟨by omega, by omega, by omega, by omega, by omega, h1⟩

theorem all_take_succ' {α : Type} [Inhabited α] (p : α → Bool) (l : List α) (k : Nat) (h : k < l.length) : (l.take (k + 1)).all p = ((l.take k).all p && p (l.getD k default)) := by
  rw [List.take_succ_eq_append_getElem h, List.all_append]
  simp [h]
theorem all_false' {α : Type} [Inhabited α] (p : α → Bool) (l : List α) (k : Nat) (h : k < l.length) (hp : p (l.getD k default) = false) : l.all p = false := by
  rw [List.all_eq_false]
  refine ⟨l[k], List.getElem_mem h, ?_⟩
  simp [h] at hp
  simp [hp]

set_option maxHeartbeats 4000000 in
theorem Check_any (north cols lofts wrong : Int) (east : List Int) (svs : List Sv) (ea sa : Option Addr) (ec sc : Nat) (w : World) (he : IntsAt w ea east) (hs : SvsAt w sa svs)
    (hl : east.length ≤ 9223372036854775807) (hl2 : svs.length ≤ 9223372036854775807) :
    Calls Try.prog 34 #[.agg #[.int .i64 north, .int .i64 cols, .slice ea east.length ec, .int .i64 lofts, .slice sa svs.length sc, .int .i64 wrong]] w fun e w' =>
    e = .returned (.int .i64 (checkE north cols east lofts svs wrong)) ∧ G w w' := by
  cases hv : validMapB north cols east lofts wrong
  · have HV : Hid (checkE north cols east lofts svs wrong = 20) := by unfold checkE Hid; rw [if_pos hv]
    go_enter Try.func34, Try.ntmps34
    go_wp2_with (go_at_call 66; refine (validMap_any _ _ _ _ _ _ _ _ _ _ _ (he.below ((G.rf _).a _)) hl).mono ?_; rintro e w' ⟨rfl, hbx⟩)
    go_ret
    exact ⟨by rw [HV.out]; rfl, ((G.rf _).a _).t hbx⟩
  · have hvb := vm_bounds hv
    have hcb : 0 ≤ cols ∧ cols ≤ 9223372036854775807 := by omega
    have hlb : 0 ≤ lofts ∧ lofts ≤ 9223372036854775807 := by omega
    clear hvb
    by_cases hn : svs.length > 16
    · have HV : Hid (checkE north cols east lofts svs wrong = 21) := by unfold checkE Hid; rw [if_neg (by rw [hv]; simp), if_pos hn]
      go_enter Try.func34, Try.ntmps34
      go_wp2_with (go_at_call 66; refine (validMap_any _ _ _ _ _ _ _ _ _ _ _ (he.below ((G.rf _).a _)) hl).mono ?_; rintro e w' ⟨rfl, hbx⟩; have hcy := (bcellB hbx).1; have hs0 : w.heap.size < w'.heap.size := (by have := hbx.size; simp at this; omega))
      go_ret
      exact ⟨by rw [HV.out]; rfl, ((G.rf _).a _).t hbx⟩
    · have HV : Hid (checkE north cols east lofts svs wrong = if svs.all (svOk cols east.length lofts) then 0 else 21) := by unfold checkE Hid; rw [if_neg (by rw [hv]; simp), if_neg hn]
      go_enter Try.func34, Try.ntmps34
      go_wp2_with (go_at_call 66; refine (validMap_any _ _ _ _ _ _ _ _ _ _ _ (he.below ((G.rf _).a _)) hl).mono ?_; rintro e w' ⟨rfl, hbx⟩; have hcy := (bcellB hbx).1; have hs0 : w.heap.size < w'.heap.size := (by have := hbx.size; simp at this; omega); have hG := G.t ((G.rf _).a _) hbx)
      obtain ⟨w1, rfl⟩ : ∃ w1, w1 = w' := ⟨_, rfl⟩
      go_loopw [15] (fun i wr => ∃ k : Nat, k ≤ svs.length ∧ i = .int .i64 k ∧ Hid ((svs.take k).all (svOk cols east.length lofts) = true) ∧ G w1 wr) (fun i _ => svs.length - (intOf i).toNat)
      case atStart => exact ⟨0, Nat.zero_le _, rfl, Lib.hid rfl, G.rf _⟩
      case round =>
        obtain ⟨k, hk, rfl, hall, hb0⟩ := hrel
        have hc := (bcellB hb0).1
        have hlo : w.heap.size < wr.heap.size := by have := hb0.size; omega
        by_cases hlt : k < svs.length
        · have hs' := hs.below (hG.t hb0)
          rcases hs' with rfl | ⟨b, off, rfl, hbb, hcell⟩
          · simp at hlt
          have hcx := hcell k hlt
          have hs1 := all_take_succ' (svOk cols east.length lofts) svs k hlt
          have hs2 := all_false' (svOk cols east.length lofts) svs k hlt
          generalize svs.getD k default = x at hcx hs1 hs2
          clear hcell hs he
          obtain ⟨x0, x1, x2, x3, x4, x5, x6, x7, x8, x9⟩ := hcx
          cases hx : svOk cols east.length lofts x
          · have H2 := Lib.hid (hs2 hx)
            clear hs1 hs2
            go_wp2_with (go_at_call 67; refine (validSurvey_any _ _ _ _ _ _ _ _ _ _ _ _ _ _ _ _ _ _ _ hcb hl hlb).mono ?_; rintro e w2 ⟨rfl, hbx⟩; rw [show validSurveyB cols east.length lofts x.loft x.kind x.xl x.xh x.yl x.yh x.ax x.ay x.dl x.dh = false from hx])
            go_ret
            exact ⟨by rw [HV.out, H2.out]; rfl, ((hG.t hb0).a _).t hbx⟩
          · have H1 := Lib.hid hs1
            clear hs1 hs2
            go_wp2_with (go_at_call 67; refine (validSurvey_any _ _ _ _ _ _ _ _ _ _ _ _ _ _ _ _ _ _ _ hcb hl hlb).mono ?_; rintro e w2 ⟨rfl, hbx⟩; rw [show validSurveyB cols east.length lofts x.loft x.kind x.xl x.xh x.yl x.yh x.ax x.ay x.dl x.dh = true from hx])
            go_roundw
            case rel => exact ⟨k + 1, by omega, by go_num, Lib.hid (by rw [H1.out, hall.out, hx]; rfl), (hb0.a _).t hbx⟩
            case measure => simp [intOf]; omega
        · have HA : Hid (svs.all (svOk cols east.length lofts) = true) := by
            have h2 := hall.out; rw [List.take_of_length_le (by omega)] at h2; exact h2
          go_wp2
          go_ret
          exact ⟨by rw [HV.out, HA.out]; rfl, hG.t hb0⟩
end Go.Proofs.Ytpjfdfddcnocpaa
