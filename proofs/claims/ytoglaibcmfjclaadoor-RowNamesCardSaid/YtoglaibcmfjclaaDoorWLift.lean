/-
  From the laws' walks to their rows: the builder (a listed row, the world's shape kept), what the row's list gives the walks, how rows and columns read.
-/
import Derived.Test.YtoglaibcmfjclaaDoorRows
import Derived.Test.YtoglaibcmfjclaaDoorWVal
import Derived.ProofKit
import Derived.OpenShut
import Derived.LaidMore
import Derived.Lay
import Derived.SizedLaws
import Derived.Stop.LaidErr
import Derived.Stop.Joined
import Derived.Lib.LaidTab
import Derived.Carry
import Derived.Deep.Slices
namespace Go.Proofs.YtoglaibcmfjclaaDoor
open Go.RowKit Go.ChangeShapes Go.WideShapes Go.ChangeAt

/-- A listed row by its contract: the contract is handed the reach, the world's shape, and the list's condition. -/
theorem handed {H : Type} {enc : TypeId × Value → H} {a : Assume} {C : Checked} {os : Os} {f : FuncId} {fn : Func} {s : ChangeSpec} {conds : List PathCond} {apart fresh handsOn again : Bool} {X : World → Array Value → Prop}
    (hX : ∀ (w w' : World) (args : Array Value), w.heap = w'.heap → X w args → X w' args)
    (own : ownKnob C.prog.godebug = none) (started : os.Started) (noInit : C.prog.inits.idxOf? f = none) (hfn : C.prog.funcs[f]? = some fn)
    (witness : ∃ (w : World) (tape : Tape) (i : Input), w.os = os ∧ (w.forCall tape i).Shaped C.prog ∧ i.vars = [] ∧ Input.okWide C.prog (w.forCall tape i) .any w.heap.size f i ∧
      ((s.pre enc C.prog fn conds apart (w.forCall tape i).memory i.args ∧ X (w.forCall tape i).memory i.args) ∧ sizedMet enc C.prog fn (OpenSpec.ofChange s) apart (w.forCall tape i).memory i.args) ∧ a.holds C.prog (lone (Frame.enter C.prog f i.args .normal) [] (w.forCall tape i)))
    (contract : ∀ (W : World) (base : Nat) (args : Array Value) (ds gs : List (DataW H)) (before : List MemPlace),
      (∀ (j : Nat) t v, fn.params[j]? = some t → args[j]? = some v → Value.okWide C.prog W .any base t v) →
      DataW.Whole enc C.prog fn.params.toList s.vars apart W args.toList ds gs before →
      (DataW.weightsEach C.prog (fn.params.toList ++ s.plain.varTypes C.prog) (ds ++ gs)).all (· ≤ reachBytes) = true → W.ShapedOpen C.prog → X W args →
      Calls C.prog f args W fun e W' => ∃ v, e = .returned v ∧ s.post enc C.prog fn apart fresh handsOn again W args v W') :
    ReturnsInHanded a C os f .any (fun w args => (s.pre enc C.prog fn conds apart w args ∧ X w args) ∧ sizedMet enc C.prog fn (OpenSpec.ofChange s) apart w args) (s.post enc C.prog fn apart fresh handsOn again) := by
  refine returnsInHanded_of_calls own started noInit witness fun w tape i _ hsh _ hok hpre _ => ?_
  obtain ⟨_, _, _, fn2, h2, _, _, _, _, hval⟩ := hok
  obtain rfl : fn2 = fn := Option.some.inj (h2.symm.trans hfn)
  obtain ⟨⟨⟨ds, gs, before, hw, _⟩, hx⟩, hz⟩ := hpre
  refine (contract _ w.heap.size i.args ds gs before hval (DataW.Whole.of_heap (w' := w.forCall tape i) (by rfl) hw) (hz.weights hw) hsh (hX _ _ _ (by rfl) hx)).mono fun e W' hq => ?_
  obtain ⟨v, rfl, hp⟩ := hq
  exact ChangeSpec.post_blind hp

theorem own : ownKnob Tryd.prog.godebug = none := by kernel_rfl

/-! ### What the list gives -/

theorem tTab : (Tryd.prog.globals[1]?).map (·.type) = some 109 := by kernel_rfl
theorem tSyn : (Tryd.prog.globals[4]?).map (·.type) = some 67 := by kernel_rfl
theorem tRan : (Tryd.prog.globals[5]?).map (·.type) = some 67 := by kernel_rfl
theorem cTab : Tryd.prog.cellsOf 109 = 20 := by kernel_rfl
theorem cU64 : Tryd.prog.cellsOf 99 = 1 := by kernel_rfl

theorem cStr : Tryd.prog.cellsOf 9 = 1 := by kernel_rfl
theorem cErr : Tryd.prog.cellsOf 136 = 1 := by kernel_rfl
theorem star : "*" ++ "errors.errorString" = "*errors.errorString" := by decide
theorem rowErr (u : TypeId) (h : Tryd.prog.typeName? 3 u = some "*errors.errorString") : u = 134 :=
  typeName_ptr_named (nm := "errors.errorString") (by rw [star]; kernel_rfl) (by kernel_rfl) (by decide) u (by rw [star]; exact h)

/-- What the list of the laws' rows gives the walks. -/
theorem good_of_laid {W : World} (hsh : W.ShapedOpen Tryd.prog) (h : laidMetH Tryd.prog Rows.rowOrderRow.laid W) : Good W := by
  rw [MakeChecks.laidMetH_plain _ _ _ (by kernel_rfl)] at h
  have h1 := laidMet.tail (laidMet.tail h)
  have ht : Lib.TabIs Tryd.prog W "internal/strconv.uint64pow10" .u64 Lib.pow10Tab :=
    Lib.tabIs_of_head (zs := Lib.pow10Tab) gTab tTab Tryd.underlying109 Tryd.underlying99 cU64 cTab h1
  have h2 := laidMet.tail (laidMet.tail h1)
  obtain ⟨a, s, hr, _⟩ := laid_sentinel h2 gRan tRan Tryd.underlying67 rowErr Tryd.underlying134 Tryd.underlying136 rfl rfl Tryd.underlying9 cErr cStr
  have h3 := laidMet.tail h2
  obtain ⟨a2, s2, hs, _⟩ := laid_sentinel h3 gSyn tSyn Tryd.underlying67 rowErr Tryd.underlying134 Tryd.underlying136 rfl rfl Tryd.underlying9 cErr cStr
  exact ⟨⟨hsh, ht⟩, ⟨_, _, hs⟩, ⟨_, _, hr⟩⟩

theorem goodT_of_laid {W : World} (hsh : W.ShapedOpen Tryd.prog) (h : laidMetH Tryd.prog Rows.rowTellsRow.laid W) : GoodT W := by
  rw [MakeChecks.laidMetH_plain _ _ _ (by kernel_rfl)] at h
  have h1 := laidMet.tail (laidMet.tail h)
  exact ⟨hsh, Lib.tabIs_of_head (zs := Lib.pow10Tab) gTab tTab Tryd.underlying109 Tryd.underlying99 cU64 cTab h1⟩

theorem sized_str {s : ByteArray} (h : s.data.toList.length ≤ reachBytes) : s.size ≤ 140737488351232 := by
  have e : s.data.toList.length = s.size := by simp
  unfold reachBytes at h
  omega

theorem laidE : laidOutB Tryd.prog = true := by kernel_rfl

theorem wf64e {n : Int} (h : (Lit.int .i64 n).wf = true) : I64 n := by unfold I64; simpa [Lit.wf, IntKind.min, IntKind.max, IntKind.signed, IntKind.bits] using h
theorem wf8e {n : Int} (h : (Lit.int .u8 n).wf = true) : 0 ≤ n ∧ n ≤ 255 := by simpa [Lit.wf, IntKind.min, IntKind.max, IntKind.signed, IntKind.bits] using h

section
variable {H : Type} {enc : TypeId × Value → H} {w : World}

theorem cV : Tryd.prog.cellsOf 25 = 4 := by kernel_rfl
set_option maxRecDepth 100000 in
theorem open_vcells {fuel : Nat} {cs : List Value} {x : DataW H × List MemPlace} (h : DataW.trod enc Tryd.prog w 0 (fun _ => true) true fuel 25 cs = some x) :
    ∃ k n u t, cs = [.int .u8 k, .int .i64 n, .int .i64 u, .string t] ∧ x.1 = .agg [.lit (.int .u8 k), .lit (.int .i64 n), .lit (.int .i64 u), .lit (.string t.data.toList)] ∧ (0 ≤ k ∧ k ≤ 255) ∧ I64 n ∧ I64 u ∧ t.size ≤ maxLen := by
  obtain ⟨xs, n, _, rfl, hl, hlen, hf⟩ := DataW.trod_struct Tryd.underlying25 h
  rw [cV] at hl
  obtain ⟨a, b, c, d, rfl⟩ : ∃ a b c d, cs = [a, b, c, d] := by
    match cs, hl with
    | [a, b, c, d], _ => exact ⟨a, b, c, d, rfl⟩
  obtain ⟨y0, y1, y2, y3, rfl⟩ : ∃ a b c d, xs = [a, b, c, d] := by
    match xs, hlen with
    | [a, b, c, d], _ => exact ⟨a, b, c, d, rfl⟩
  have h0 := hf 0 _ rfl
  have h1 := hf 1 _ rfl
  have h2 := hf 2 _ rfl
  have h3 := hf 3 _ rfl
  simp only [List.getElem?_cons_zero, List.getElem?_cons_succ] at h0 h1 h2 h3
  obtain ⟨k, e0, rfl, w0⟩ := DataW.trod_int Tryd.underlying5 h0
  obtain ⟨m, e1, rfl, w1⟩ := DataW.trod_int Tryd.underlying2 h1
  obtain ⟨u, e2, rfl, w2⟩ := DataW.trod_int Tryd.underlying2 h2
  obtain ⟨t, e3, rfl, w3⟩ := DataW.trod_string Tryd.underlying9 h3
  cases e0; cases e1; cases e2; cases e3
  exact ⟨k, m, u, t, rfl, rfl, wf8e w0, wf64e w1, wf64e w2, w3⟩

theorem spot_none {w : World} {a : Addr} {v : Value} (h : w.cell? a = some v) : a = ⟨a.block, a.off, none⟩ ∧ a.block < w.heap.size := by
  obtain ⟨b, o, s⟩ := a
  unfold World.cell? at h
  dsimp only at h
  split at h
  · rename_i c _ _ hb
    cases s with
    | none => exact ⟨rfl, by have := (Array.getElem?_eq_some_iff.1 hb).1; exact this⟩
    | some s => simp at h
  · cases h

theorem add_at {b o i : Nat} : (⟨b, o, none⟩ : Addr).add i = ⟨b, o + i, none⟩ := by
  unfold Addr.add
  split
  · rename_i h; rw [h]; rfl
  · rfl

theorem mem_weightsAll {P : Program} {t : TypeId} {n : Nat} : ∀ {l : List (DataW H)} {d : DataW H}, d ∈ l → n ∈ d.weights P t → n ∈ DataW.weightsAll P t l
  | x :: l, d, h, hn => by
    simp only [DataW.weightsAll, List.mem_append]
    rcases List.mem_cons.1 h with rfl | h
    · exact .inl hn
    · exact .inr (mem_weightsAll h hn)


theorem list_of {n : Nat} (vals : Nat → Val) (i : Nat) (x : Val) (hx : ((List.range n).map vals)[i]? = some x) : i < n ∧ x = vals i := by
  rw [List.getElem?_map] at hx
  obtain ⟨j, h1, rfl⟩ := Option.map_eq_some_iff.1 hx
  obtain ⟨h2, h3⟩ := List.getElem?_eq_some_iff.1 h1
  have h4 : i < n := by simpa using h2
  rw [List.getElem_range] at h3
  subst h3
  exact ⟨h4, rfl⟩

set_option maxRecDepth 100000 in
/-- An argument that is a slice of values: each text is within the form's reach. -/
theorem open_row {b0 : Nat} {v : Value} {d : DataW H} {p : List MemPlace} (hv : Value.okWide Tryd.prog w .any b0 35 v) (h : DataW.Trod enc Tryd.prog w 0 (fun _ => true) true 35 v d p)
    (hsz : ∀ n ∈ d.weights Tryd.prog 35, n ≤ reachBytes) : ∃ a n c l, v = .slice a n c ∧ List.length l = n ∧ SlL w a c l := by
  obtain ⟨a0, len0, cap0, rfl⟩ := okWide_slice Tryd.underlying35 hv
  obtain ⟨fuel, hf⟩ := h
  rcases DataW.trod_slice Tryd.underlying35 hf with ⟨e3, _⟩ | ⟨a, len, cap, elems, rest, n', hn', e3, hx, _, hlc, hcm, hel, hat, _, _⟩
  · simp [Value.cells] at e3
    obtain ⟨rfl, rfl, rfl⟩ := e3
    exact ⟨none, 0, 0, [], rfl, rfl, SlL.nil _ _ _ (Nat.zero_le _)⟩
  · simp [Value.cells] at e3
    obtain ⟨rfl, rfl, rfl⟩ := e3
    rw [cV] at hat
    simp only [Prod.mk.injEq] at hx
    obtain ⟨rfl, _⟩ := hx
    have hk : ∀ i, i < len0 → ∃ q : Val, (∃ cs', w.cells? 0 (a.add (i * 4)) 4 = some cs' ∧ cs' = [.int .u8 q.k, .int .i64 q.n, .int .i64 q.u, .string q.t]) ∧ q.wf := by
      intro i hi
      have := hat i hi
      rw [List.getElem?_eq_getElem (by omega)] at this
      obtain ⟨cs', h1, h2⟩ := Option.bind_eq_some_iff.1 this
      obtain ⟨k, n, u, t, he, hd, wk, wn, wu, wt⟩ := open_vcells h2
      refine ⟨⟨k, n, u, t⟩, ⟨cs', h1, he⟩, ⟨wk.1, wk.2, wn, wu, ?_⟩⟩
      have hm : t.data.toList.length ∈ DataW.weights Tryd.prog 25 (elems[i]'(by omega)).1 := by
        rw [hd]
        simp [DataW.weights, DataW.weightsEach, Tryd.underlying25]
      have := hsz _ (by
        simp only [DataW.weights, Tryd.underlying35, List.mem_cons, List.mem_append]
        exact .inr (.inl (mem_weightsAll (List.mem_map.2 ⟨_, List.getElem_mem (by omega : i < elems.length), rfl⟩) hm)))
      have hs : t.size = t.data.toList.length := rfl
      show t.size ≤ 140737488351232
      rw [hs]
      exact this
    obtain ⟨vals, hvals⟩ := Deep.choose_lt hk
    refine ⟨some a, len0, cap0, (List.range len0).map vals, rfl, by simp, by simpa using hlc, hcm, fun hl => ?_, fun x hx => ?_⟩
    · have hl' : 0 < len0 := by
        rcases Nat.eq_zero_or_pos len0 with e | e
        · subst e; exact absurd rfl hl
        · exact e
      have ha : a = ⟨a.block, a.off, none⟩ := by
        obtain ⟨⟨cs', h1, rfl⟩, _⟩ := hvals 0 hl'
        obtain ⟨_, _, hc⟩ := World.cells?_some h1
        have := hc 0 (by omega)
        have he : (a.add (0 * 4)).add 0 = a := by simp [Addr.add]
        rw [he] at this
        exact (spot_none this).1
      refine ⟨a.block, a.off, by show some a = _; rw [← ha], fun i x hx => ?_⟩
      obtain ⟨hi, rfl⟩ := list_of vals i x hx
      obtain ⟨⟨cs', h1, rfl⟩, _⟩ := hvals i hi
      obtain ⟨_, _, hc⟩ := World.cells?_some h1
      have hb := World.cells?_block h1 (by omega)
      rw [ha] at hc hb
      simp only [add_at] at hc hb
      have g := fun j hj => hc j hj
      have g0 := g 0 (by omega)
      have g1 := g 1 (by omega)
      have g2 := g 2 (by omega)
      have g3 := g 3 (by omega)
      exact ⟨g0, g1, g2, g3, hb⟩
    · obtain ⟨i, hi, rfl⟩ := List.mem_map.1 hx
      exact (hvals i (by simpa using hi)).2

theorem cC : Tryd.prog.cellsOf 31 = 6 := by kernel_rfl

set_option maxRecDepth 100000 in
theorem open_ccells {fuel : Nat} {cs : List Value} {x : DataW H × List MemPlace} (h : DataW.trod enc Tryd.prog w 0 (fun _ => true) true fuel 31 cs = some x) :
    ∃ c : Col, cs = [.string c.nm, .int .u8 c.ty, .int .u8 c.k, .int .i64 c.n, .int .i64 c.u, .string c.t] := by
  obtain ⟨xs, n, _, rfl, hl, hlen, hf⟩ := DataW.trod_struct Tryd.underlying31 h
  rw [cC] at hl
  obtain ⟨c0, c1, c2, c3, c4, c5, rfl⟩ : ∃ c0 c1 c2 c3 c4 c5, cs = [c0, c1, c2, c3, c4, c5] := by
    match cs, hl with
    | [c0, c1, c2, c3, c4, c5], _ => exact ⟨c0, c1, c2, c3, c4, c5, rfl⟩
  obtain ⟨y0, y1, y2, rfl⟩ : ∃ a b c, xs = [a, b, c] := by
    match xs, hlen with
    | [a, b, c], _ => exact ⟨a, b, c, rfl⟩
  have h0 := hf 0 _ rfl
  have h1 := hf 1 _ rfl
  have h2 := hf 2 _ rfl
  simp only [List.getElem?_cons_zero, List.getElem?_cons_succ] at h0 h1 h2
  obtain ⟨nm, e0, _, _⟩ := DataW.trod_string Tryd.underlying9 h0
  obtain ⟨ty, e1, _, _⟩ := DataW.trod_int Tryd.underlying5 h1
  obtain ⟨k, vn, vu, vt, e2, _, _, _, _, _⟩ := open_vcells h2
  cases e0; cases e1; cases e2
  exact ⟨⟨nm, ty, k, vn, vu, vt⟩, rfl⟩

theorem list_ofC {n : Nat} (vals : Nat → Col) (i : Nat) (x : Col) (hx : ((List.range n).map vals)[i]? = some x) : i < n ∧ x = vals i := by
  rw [List.getElem?_map] at hx
  obtain ⟨j, h1, rfl⟩ := Option.map_eq_some_iff.1 hx
  obtain ⟨h2, h3⟩ := List.getElem?_eq_some_iff.1 h1
  have h4 : i < n := by simpa using h2
  rw [List.getElem_range] at h3
  subst h3
  exact ⟨h4, rfl⟩

instance : Inhabited Col := ⟨⟨⟨#[]⟩, 0, 0, 0, 0, ⟨#[]⟩⟩⟩

set_option maxRecDepth 100000 in
/-- An argument that is a slice of columns. -/
theorem open_cols {b0 : Nat} {v : Value} {d : DataW H} {p : List MemPlace} (hv : Value.okWide Tryd.prog w .any b0 32 v) (h : DataW.Trod enc Tryd.prog w 0 (fun _ => true) true 32 v d p) :
    ∃ a n c l, v = .slice a n c ∧ List.length l = n ∧ SlC w a c l := by
  obtain ⟨a0, len0, cap0, rfl⟩ := okWide_slice Tryd.underlying32 hv
  obtain ⟨fuel, hf⟩ := h
  rcases DataW.trod_slice Tryd.underlying32 hf with ⟨e3, _⟩ | ⟨a, len, cap, elems, rest, n', hn', e3, hx, _, hlc, hcm, hel, hat, _, _⟩
  · simp [Value.cells] at e3
    obtain ⟨rfl, rfl, rfl⟩ := e3
    exact ⟨none, 0, 0, [], rfl, rfl, Nat.le_refl _, Nat.zero_le _, fun h => absurd rfl h⟩
  · simp [Value.cells] at e3
    obtain ⟨rfl, rfl, rfl⟩ := e3
    rw [cC] at hat
    have hk : ∀ i, i < len0 → ∃ q : Col, ∃ cs', w.cells? 0 (a.add (i * 6)) 6 = some cs' ∧ cs' = [.string q.nm, .int .u8 q.ty, .int .u8 q.k, .int .i64 q.n, .int .i64 q.u, .string q.t] := by
      intro i hi
      have := hat i hi
      rw [List.getElem?_eq_getElem (by omega)] at this
      obtain ⟨cs', h1, h2⟩ := Option.bind_eq_some_iff.1 this
      obtain ⟨q, hq⟩ := open_ccells h2
      exact ⟨q, cs', h1, hq⟩
    obtain ⟨vals, hvals⟩ := Deep.choose_lt hk
    refine ⟨some a, len0, cap0, (List.range len0).map vals, rfl, by simp, by simpa using hlc, hcm, fun hl => ?_⟩
    have hl' : 0 < len0 := by
      rcases Nat.eq_zero_or_pos len0 with e | e
      · subst e; exact absurd rfl hl
      · exact e
    have ha : a = ⟨a.block, a.off, none⟩ := by
      obtain ⟨cs', h1, rfl⟩ := hvals 0 hl'
      obtain ⟨_, _, hc⟩ := World.cells?_some h1
      have := hc 0 (by omega)
      have he : (a.add (0 * 6)).add 0 = a := by simp [Addr.add]
      rw [he] at this
      exact (spot_none this).1
    refine ⟨a.block, a.off, by show some a = _; rw [← ha], fun i x hx => ?_⟩
    obtain ⟨hi, rfl⟩ := list_ofC vals i x hx
    obtain ⟨cs', h1, rfl⟩ := hvals i hi
    obtain ⟨_, _, hc⟩ := World.cells?_some h1
    have hb := World.cells?_block h1 (by omega)
    rw [ha] at hc hb
    simp only [add_at] at hc hb
    have g := fun j hj => hc j hj
    have g0 := g 0 (by omega)
    have g1 := g 1 (by omega)
    have g2 := g 2 (by omega)
    have g3 := g 3 (by omega)
    have g4 := g 4 (by omega)
    have g5 := g 5 (by omega)
    exact ⟨g0, g1, g2, g3, g4, g5, hb⟩
end
end Go.Proofs.YtoglaibcmfjclaaDoor
