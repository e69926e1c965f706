import Derived.Test.YtdneehbhncekaaaLu
import Derived.Test.YtdneehbhncekaaaLw
set_option linter.unusedSimpArgs false
set_option linter.unusedVariables false
namespace Go.Proofs.Ytdneehbhncekaaa
open Go.RowKit
attribute [local go_sem] Oper.semAt_some

/-- the release that the law asks about -/
def relS (north wrong : Int) (cn ln px py sl sh : Nat) (ea : Option Addr) (el ec : Nat) (sa : Option Addr) (sn sc gq : Nat) : Array Value :=
  #[.int .i64 north, .int .i64 (cn : Nat), .slice ea el ec, .int .i64 (ln : Nat), .slice sa sn sc, .int .i64 wrong, .int .i64 (px : Nat), .int .i64 (py : Nat), .slice (some ⟨gq, 0, none⟩) 1 1, .int .i64 (sl : Nat), .int .i64 (sh : Nat), .slice none 0 0, .int .i64 0, .int .i64 0, .int .i64 0, .int .i64 1, .int .i64 0]
theorem relS_is {north wrong : Int} {cn ln px py sl sh : Nat} {ea : Option Addr} {el ec : Nat} {sa : Option Addr} {sn sc gq : Nat} : IsRel (relS north wrong cn ln px py sl sh ea el ec sa sn sc gq) :=
  ⟨_, _, _, _, _, _, _, _, _, _, _, _, _, _, _, _, _, _, _, _, _, _, _, _, _, rfl⟩
def hS (qx qy : Nat) (_ r : Nat) : Int := if r = 0 then (qx : Int) else qy
theorem hS_row {W : World} {g qx qy : Nat} (h : Blk W g 39 #[.int .i64 (qx : Nat), .int .i64 (qy : Nat)]) : RowAt W (some ⟨g, 0, none⟩) 1 2 (hS qx qy) := .inr ⟨_, 0, rfl, h.lt, fun i hi r hr => by
  obtain rfl : i = 0 := by omega
  rw [show 0 + 0 * 2 + r = r by omega, h.cell]
  match r, hr with
  | 0, _ => rfl
  | 1, _ => rfl⟩
theorem Pa_straight (north wrong : Int) (cn ln px py qx qy sl sh mn : Nat) (east : List Int) (svs : List Sv) (ea sa : Option Addr) (ec sc gq : Nat) (W : World) (he : IntsAt W ea east) (hs : SvsAt W sa svs) (hk : checkE north cn east ln svs wrong = 0)
    (h1 : px < cn) (h2 : py < east.length) (h3 : qx < cn) (h4 : qy < east.length) (hm : mn ≤ 9999) (hsl : 1 ≤ sl) (hsh : sl ≤ sh) (hsh2 : sh ≤ 3000000) (hq : Blk W gq 39 #[.int .i64 (qx : Nat), .int .i64 (qy : Nat)]) :
    Calls Try.prog 10 #[.agg (relS north wrong cn ln px py sl sh ea east.length ec sa svs.length sc gq), .int .i64 0, .int .i64 (mn : Nat)] W (PaPost W (spV north east (pbK px py qx qy (stepsN px py qx qy) (stepsN px py qx qy)) sl sh mn (stepsN px py qx qy + 1)) (stepsN px py qx qy + 1)) :=
  Passes_ok north wrong 0 0 0 1 0 cn ln px py qx qy sl sh mn 0 east svs 1 0 (hS qx qy) (fun _ _ => 0) ea sa (some ⟨gq, 0, none⟩) none ec sc 1 0 W he hs hk
    { base := plB h1 h2, many := by omega, homes := fun i hi => plB h3 h4, speed := by simp [spanB]; omega, wind := by decide, sight := by decide, heat := by decide, hrs := by decide, drk := by decide }
    (hS_row hq) (.inl rfl) (by omega) (fun i hi => by omega) (by omega) rfl rfl hm
/-- the last of the spans -/
theorem last_lo {north : Int} {east : List Int} {px py qx qy sl sh : Nat} {D : Nat} (hD : farL north east (pbK px py qx qy (stepsN px py qx qy) (stepsN px py qx qy)) (stepsN px py qx qy) = D) : loT north east (pbK px py qx qy (stepsN px py qx qy) (stepsN px py qx qy)) sh (stepsN px py qx qy) = D / sh := by
  unfold loT
  rw [hD]
theorem last_hi {north : Int} {east : List Int} {px py qx qy sl sh : Nat} {D : Nat} (hD : farL north east (pbK px py qx qy (stepsN px py qx qy) (stepsN px py qx qy)) (stepsN px py qx qy) = D) (h0 : lenS north east (pbK px py qx qy (stepsN px py qx qy) (stepsN px py qx qy)) (stepsN px py qx qy) = 0) : hiT north east (pbK px py qx qy (stepsN px py qx qy) (stepsN px py qx qy)) sl (stepsN px py qx qy) = (D + sl - 1) / sl := by
  unfold hiT
  rw [hD, h0, Nat.add_zero]
theorem neq46 (a b c d : Int) (w : World) : (binOp .neq 27 (.agg #[.int .i64 a, .int .i64 b]) (.agg #[.int .i64 c, .int .i64 d])).run Try.prog w = .ok (.bool (!(a == c && b == d))) w := by
  have u3 := Try.underlying3
  have hS : Try.prog.underlying 27 = some (.struct (Try.prog.fieldsOf 27)) := by kernel_rfl
  have hp : Try.prog.stoodInHeld 27 = false := by kernel_rfl
  rw [run_neq_struct, show (10000 : Nat) = 9999 + 1 from rfl, run_equalIn_agg w 9999 27 _ _ hS hp]
  simp only [Program.fieldsOf, Try.underlying27]
  go_simp
  by_cases h1 : a = c <;> by_cases h2 : b = d <;> simp [h1, h2]
section
variable {P : Program} {w : World} {ops : Array Oper} {rest : List Oper} {o : Oper} {a : Act} {Q : Exit → Act → World → Prop}
theorem wpList_load46 (g t : Nat) {REL : Array Value} (hgd : o.guard = none) (hR : IsRel REL) (ho : o.op = .load 46 (.tmp t)) (hv : a.eval (.tmp t) = .pointer (some ⟨g, 0, none⟩)) (hB : Blk w g 46 REL)
    (h : wpList Try.prog ops Q rest (a.put o.dst (.agg REL)) w) : wpList Try.prog ops Q (o :: rest) a w := by
  refine wpList_plain hgd fun K hK => ?_
  unfold Oper.wp
  rw [load46o w g t hR o a.eval ho hv hB]
  exact hK _ _ h
theorem wpList_store46 (g t s : Nat) {OLD REL : Array Value} (hgd : o.guard = none) (hO : IsRel OLD) (hR : IsRel REL) (ho : o.op = .store 46 (.tmp t) (.tmp s)) (hv : a.eval (.tmp t) = .pointer (some ⟨g, 0, none⟩)) (hs : a.eval (.tmp s) = .agg REL) (hB : Blk w g 46 OLD)
    (h : ∀ W2, Blk W2 g 46 REL → (∀ b, b ≠ g → W2.heap[b]? = w.heap[b]?) → (∀ w0 : World, w0.heap.size ≤ g → G w0 w → G w0 W2) → wpList Try.prog ops Q rest (a.put o.dst undef) W2) : wpList Try.prog ops Q (o :: rest) a w := by
  refine wpList_plain hgd fun K hK => ?_
  exact wp_store46 g t s hO hR ho hv hs hB fun W2 h1 h2 h3 => hK _ _ (h W2 h1 h2 h3)
end
/-- what the operations of region 10 yield -/
def R10 (rel : Nat → Array Value) (qx qy B : Nat) (j : Nat) (v : Value) (W : World) : Prop :=
  (j = 7 → ∃ g, v = .slice (some ⟨g, 0, none⟩) 1 1 ∧ Blk W g 39 #[.int .i64 (qx : Nat), .int .i64 (qy : Nat)]) ∧
  (j = 10 → ∃ g, v = .agg (rel g) ∧ Blk W g 39 #[.int .i64 (qx : Nat), .int .i64 (qy : Nat)]) ∧
  (j = 11 → ∃ n, v = .pointer (some ⟨n, 0, none⟩) ∧ Blk W n 46 #[.int .i64 0, .int .i64 0, .slice none 0 0, .int .i64 0, .slice none 0 0, .int .i64 0, .int .i64 0, .int .i64 0, .slice none 0 0, .int .i64 0, .int .i64 0, .slice none 0 0, .int .i64 0, .int .i64 0, .int .i64 0, .int .i64 0, .int .i64 0] ∧ B ≤ n)
theorem R10_keep {rel : Nat → Array Value} {qx qy B j : Nat} {v : Value} {W W' : World} (h : R10 rel qx qy B j v W) (k : G W W') : R10 rel qx qy B j v W' :=
  ⟨fun e => (h.1 e).imp fun g ⟨a, b⟩ => ⟨a, b.keep k⟩, fun e => (h.2.1 e).imp fun g ⟨a, b⟩ => ⟨a, b.keep k⟩, fun e => (h.2.2 e).imp fun g ⟨a, b, c⟩ => ⟨a, b.keep k, c⟩⟩
end Go.Proofs.Ytdneehbhncekaaa
