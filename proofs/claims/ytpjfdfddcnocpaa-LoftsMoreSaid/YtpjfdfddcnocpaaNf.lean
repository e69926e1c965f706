import Derived.Test.YtpjfdfddcnocpaaNe
set_option linter.unusedSimpArgs false
set_option linter.unusedVariables false
namespace Go.Proofs.Ytpjfdfddcnocpaa
open Go.RowKit
attribute [local go_sem] Oper.semAt_some

/-- a frame with four slots written -/
def T4 (tm : Array Value) (a b c d : Value) : Array Value := (((tm.setIfInBounds 34 a).setIfInBounds 36 b).setIfInBounds 7 c).setIfInBounds 8 d
theorem T4_get (tm : Array Value) (a b c d : Value) (k : Nat) : (T4 tm a b c d)[k]? = if k = 8 then (if 8 < tm.size then some d else none) else if k = 7 then (if 7 < tm.size then some c else none) else if k = 36 then (if 36 < tm.size then some b else none) else if k = 34 then (if 34 < tm.size then some a else none) else tm[k]? := by
  unfold T4
  simp only [Array.getElem?_setIfInBounds, Array.size_setIfInBounds]
  simp only [eq_comm (a := 8), eq_comm (a := 7), eq_comm (a := 36), eq_comm (a := 34)]
theorem T4_34 (tm : Array Value) (a b c d v : Value) : (T4 tm a b c d).setIfInBounds 34 v = T4 tm v b c d := by
  refine Array.ext_getElem? fun k => ?_
  rw [Array.getElem?_setIfInBounds, T4_get, T4_get]
  have hs : (T4 tm a b c d).size = tm.size := by simp [T4]
  rw [hs]
  by_cases h : k = 34
  · subst h; simp
  · rw [if_neg (fun e => h e.symm)]
    simp [h]
theorem T4_36 (tm : Array Value) (a b c d v : Value) : (T4 tm a b c d).setIfInBounds 36 v = T4 tm a v c d := by
  refine Array.ext_getElem? fun k => ?_
  rw [Array.getElem?_setIfInBounds, T4_get, T4_get]
  have hs : (T4 tm a b c d).size = tm.size := by simp [T4]
  rw [hs]
  by_cases h : k = 36
  · subst h; simp
  · rw [if_neg (fun e => h e.symm)]
    simp [h]
theorem T4_7 (tm : Array Value) (a b c d v : Value) : (T4 tm a b c d).setIfInBounds 7 v = T4 tm a b v d := by
  refine Array.ext_getElem? fun k => ?_
  rw [Array.getElem?_setIfInBounds, T4_get, T4_get]
  have hs : (T4 tm a b c d).size = tm.size := by simp [T4]
  rw [hs]
  by_cases h : k = 7
  · subst h; simp
  · rw [if_neg (fun e => h e.symm)]
    simp [h]
theorem T4_8 (tm : Array Value) (a b c d v : Value) : (T4 tm a b c d).setIfInBounds 8 v = T4 tm a b c v := by
  refine Array.ext_getElem? fun k => ?_
  rw [Array.getElem?_setIfInBounds, T4_get, T4_get]
  have hs : (T4 tm a b c d).size = tm.size := by simp [T4]
  rw [hs]
  by_cases h : k = 8
  · subst h; simp
  · rw [if_neg (fun e => h e.symm)]
    simp [h]
theorem reg3T {S : World → Prop} {north cols lofts wrong : Int} {east : List Int} {svs : List Sv} {ea sa : Option Addr} {ec sc : Nat} {w0 W : World} {Q : Exit → Act → World → Prop} {tm : Array Value} (HSW : ∀ W, G w0 W → S W)
    (HCp : ∀ W, G w0 W → Calls Try.prog 28 #[.agg #[.int .i64 north, .int .i64 cols, .slice ea east.length ec, .int .i64 lofts, .slice sa svs.length sc, .int .i64 wrong]] W (CopyFull north cols lofts wrong east svs W)) (hsz : tm.size = 65) (h33 : tm.getD 33 undef = .agg #[.int .i64 north, .int .i64 cols, .slice ea east.length ec, .int .i64 lofts, .slice sa svs.length sc, .int .i64 wrong]) (h35 : tm.getD 35 undef = .agg #[.int .i64 north, .int .i64 cols, .slice ea east.length ec, .int .i64 lofts, .slice sa svs.length sc, .int .i64 wrong]) (hu : T4 tm undef undef undef undef = tm) (HFIN : ∀ n7 n8 gE capE curE gS capS curS gE' capE' curE' gS' capS' curS' W', n7 ≠ n8 → gS ≠ gS' → w0.heap.size ≤ n7 → w0.heap.size ≤ n8 → G w0 W' → Blk W' n7 25 #[.int .i64 north, .int .i64 cols, .slice (some ⟨gE, 0, none⟩) east.length capE, .int .i64 lofts, .slice (some ⟨gS, 0, none⟩) svs.length capS, .int .i64 wrong] → Blk W' n8 25 #[.int .i64 north, .int .i64 cols, .slice (some ⟨gE', 0, none⟩) east.length capE', .int .i64 lofts, .slice (some ⟨gS', 0, none⟩) svs.length capS', .int .i64 wrong] → w0.heap.size ≤ gE → Blk W' gE 3 curE → curE.toList.take east.length = east.map (Value.int .i64) → w0.heap.size ≤ gS → OwnSv W' gS capS curS svs → w0.heap.size ≤ gE' → Blk W' gE' 3 curE' → curE'.toList.take east.length = east.map (Value.int .i64) → w0.heap.size ≤ gS' → OwnSv W' gS' capS' curS' svs → Q .normal ⟨T4 tm (.agg #[.int .i64 north, .int .i64 cols, .slice (some ⟨gE, 0, none⟩) east.length capE, .int .i64 lofts, .slice (some ⟨gS, 0, none⟩) svs.length capS, .int .i64 wrong]) (.agg #[.int .i64 north, .int .i64 cols, .slice (some ⟨gE', 0, none⟩) east.length capE', .int .i64 lofts, .slice (some ⟨gS', 0, none⟩) svs.length capS', .int .i64 wrong]) (.pointer (some ⟨n7, 0, none⟩)) (.pointer (some ⟨n8, 0, none⟩)), []⟩ W') (hW : G w0 W) :
    wpAnyY Try.prog .any ops3 Q S 7 6 #[true, false, true, false, false, false, false, false] ⟨tm, []⟩ W := by
  have key : ∀ (a b c d : Value) (k : Nat), (T4 tm a b c d).getD k undef = ((T4 tm a b c d)[k]?).getD undef := fun a b c d k => by simp
  have key2 : ∀ k, tm.getD k undef = (tm[k]?).getD undef := fun k => by simp
  have := reg3 (T := T4 tm) (T4_34 tm) (T4_36 tm) (T4_7 tm) (T4_8 tm)
    (fun a b c d => by rw [key, T4_get, ← h33, key2]; rfl) (fun a b c d => by rw [key, T4_get, ← h35, key2]; rfl)
    (fun a b c d => by rw [key, T4_get]; simp [hsz]) (fun a b c d => by rw [key, T4_get]; simp [hsz]) (fun a b c d => by rw [key, T4_get]; simp [hsz]) (fun a b c d => by rw [key, T4_get]; simp [hsz])
    HSW HCp HFIN (W := W) ⟨hW, fun h => by omega, fun h => by omega, fun h => (by cases h), fun h => (by cases h), fun h => (by cases h), fun h => by omega⟩
  rwa [hu] at this
end Go.Proofs.Ytpjfdfddcnocpaa
