/-
  The walks of the queue's put and part, of land and of flyingIds.
  The walk of the specification's l05Ids.
  The walk of the specification's Join.
  The specification's functions on links, whatever the cap of what flies.
  The walk of the specification's Leave.
  The specification's functions on links, whatever the cap of what flies.
  The walks of Old and Ready, of the program and of the specification, where neither At nor Ttl is below 0 or beyond what a draw makes of them.
  How many open messages a device has: the walks, of the program and of the specification.
-/
import Derived.Test.YtkndpkingmemoaaGreatDoorMgb
import Derived.Test.YtkndpkingmemoaaGreatDoorMge
import Derived.Deep.RegionLaw
import Derived.Deep.RegionWith
import Derived.Deep.DeepCutAuto
import Derived.Test.YtkndpkingmemoaaGreatDoorMgd
import Derived.Test.YtkndpkingmemoaaGreatDoorMgc
namespace Go.Proofs.YtkndpkingmemoaaGreatDoor.Lnk
open Go.RowKit
open Go.Proofs.YtkndpkingmemoaaGreatDoor.Kit (append_one)
set_option linter.unusedVariables false

theorem slice_full (w : World) (a : Option Addr) (len cap : Nat) (l : List Y) (B : Nat) (h : YIs B w a len l) (hc : len ≤ cap) (wx : World) :
    (Instr.slice 237 (.slice a len cap) none (some (.int .i64 (len : Int))) (some (.int .i64 (len : Int)))).run Tryz.prog wx = .ok (.slice a len len) wx := by
  have hu : Tryz.prog.underlying 237 = some (.slice (Tryz.prog.elem 237)) := by kernel_rfl
  have hs : (sizeOf (Tryz.prog.elem 237)).run Tryz.prog wx = .ok 3 wx := by kernel_rfl
  rw [run_slice_hm wx _ a len cap hu .i64 .i64 (len : Int) (len : Int) (by omega) (by omega) (by omega), hs]
  simp only [Result.andThen, sliced, Int.toNat_natCast, Nat.sub_zero]
  by_cases h0 : len = 0
  · subst h0; simp
  · rw [if_neg h0]
    obtain ⟨b, off, rfl, _⟩ := h.cell 0 (by have := h.hlen; omega)
    simp [Addr.add]

set_option maxRecDepth 100000 in
set_option maxHeartbeats 1000000 in
theorem put_any (w : World) (a : Option Addr) (len cap : Nat) (l : List Y) (x y z : Int) (h : YIs w.heap.size w a len l) (hc : len ≤ cap) (hlen : len ≤ 1100000) :
    Calls Tryz.prog 209 #[.slice a len cap, .agg #[.int .i64 x, .int .i64 y, .int .i64 z]] w fun e w' => SliceEnd w w' (l ++ [(x, y, z)]) e := by
  have hsl := slice_full w a len cap l _ h hc
  have hb1 := bOne w (.cells #[.int .i64 x, .int .i64 y, .int .i64 z] 95)
  have HB1 := Lib.hid hb1
  have HT := Lib.hid (h.here hb1)
  have hx := Bf.new w x y z 95
  have HX := Lib.hid hx
  have hlt : w.heap.size < (w.alloc (.cells #[.int .i64 x, .int .i64 y, .int .i64 z] 95)).heap.size := by simp
  have HTW := Lib.hid h
  clear hb1 h
  go_enter Tryz.func209, Tryz.ntmps209
  go_wp2_with fail
  obtain ⟨W, hW⟩ : ∃ W, W = w.alloc (.cells #[.int .i64 x, .int .i64 y, .int .i64 z] 95) := ⟨_, rfl⟩
  rw [← hW] at hx HX HB1 HT hlt ⊢
  clear hW
  obtain ⟨c0, c1, c2, _⟩ := hx
  have hb2 : Below W.heap.size W (W.drew.alloc (.cells #[.int .i64 x, .int .i64 y, .int .i64 z] 95)) := (below_drew' (Below.refl _ _)).alloc (Nat.le_refl _) _
  have HT2 := Lib.hid (HT.out.here hb2)
  have HB2 := Lib.hid hb2
  have HY := Lib.hid (yis_one W.drew x y z 95)
  clear hb2
  go_region_law (refine step_append_run rfl _ _ _ rfl _ _ (by simp [Act.eval]) (by simp [Act.eval]) (app_full (c := 1) Tryz.underlying237 HT2.out HY.out (by omega)) ?_; intro v' w2 happ)
  all_goals
    have hb3 : Below w.heap.size w w2 := bAfter HB1.out (bAfter HB2.out happ.2 HB2.out.size) HB1.out.size
    have ho3 : YOwn w.heap.size w2 95 v' (l ++ [(x, y, z)]) := happ.1.base (Nat.le_trans HB1.out.size HB2.out.size)
    obtain ⟨a', cap', rfl⟩ := YOwn.shape (l := l ++ [(x, y, z)]) ho3
    have HB3 := Lib.hid hb3
    have HO3 := Lib.hid ho3
    clear happ hb3 ho3
    go_wp2_with fail
    go_ret
    exact ⟨⟨a', cap', by rw [List.length_append]; rfl, HO3.out⟩, HB3.out⟩

theorem YOwn.lecap {B : Nat} {w : World} {E : TypeId} {a : Option Addr} {n cap : Nat} {l : List Y} (h : YOwn B w E (.slice a n cap) l) : n ≤ cap := by
  rcases h.2 with ⟨e, h0⟩ | ⟨g, c, cur, e, hb, hg, hn, hm, hs, ht⟩
  · simp only [Value.slice.injEq] at e
    omega
  · simp only [Value.slice.injEq] at e
    obtain ⟨rfl, rfl, rfl⟩ := e
    exact hn

/-- ints that were handed back -/
def IntsEnd (w w' : World) (xs : List Int) (e : Ending) : Prop := (∃ a cap, e = .returned (.slice a xs.length cap) ∧ IOwn w.heap.size w' (.slice a xs.length cap) xs) ∧ Below w.heap.size w w'

set_option maxRecDepth 100000 in
set_option maxHeartbeats 1000000 in
theorem flyingIds_any (w : World) (a : Option Addr) (len cap : Nat) (l : List Y) (h : YIs w.heap.size w a len l) (hlen : len ≤ 1100000) :
    Calls Tryz.prog 104 #[.slice a len cap] w fun e w' => IntsEnd w w' (idsL l) e := by
  obtain ⟨i0, hi, hz0, hz1, hz2⟩ := info_parts infoInt
  have HL := Lib.hid h.hlen
  have HT := Lib.hid h
  clear h
  go_enter Tryz.func104, Tryz.ntmps104
  go_wp2_with fail
  go_loopw [3, 8] (fun vi i wr => ∃ j : Nat, j ≤ len ∧ i = .int .i64 j ∧ Hid (IOwn w.heap.size wr vi (idsL (l.take j))) ∧ Hid (Below w.heap.size w wr)) (fun _ i _ => len - (intOf i).toNat)
  case atStart => exact ⟨0, by omega, rfl, Lib.hid (IOwn.nil _ _), Lib.hid (Below.refl _ _)⟩
  case round =>
    obtain ⟨j, hj, rfl, HO, HB⟩ := hrel
    by_cases hlt : (j : Int) < (len : Int)
    · have hjd : j < l.length := by have := HL.out; omega
      obtain ⟨b', off, rfl, hbw, e0, e1, e2⟩ := (HT.out.below HB.out).cell j hjd
      obtain ⟨p, hp⟩ : ∃ p, p = l[j].1 := ⟨_, rfl⟩
      obtain ⟨q, hq⟩ : ∃ q, q = l[j].2.1 := ⟨_, rfl⟩
      obtain ⟨r, hr⟩ : ∃ r, r = l[j].2.2 := ⟨_, rfl⟩
      have HQ := Lib.hid hq
      rw [← hp] at e0
      rw [← hq] at e1
      rw [← hr] at e2
      clear hp hq hr
      have hown : (wr.alloc (.cells #[.int .i64 p, .int .i64 q, .int .i64 r] 95)).ownsRow w.heap.size 3 1 u3 j ((idsL (l.take j)).map fun x => .int .i64 x) := by
        have := World.ownsRow.alloc HO.out (.cells #[.int .i64 p, .int .i64 q, .int .i64 r] 95)
        simpa [idsL, Nat.min_eq_left (show j ≤ l.length by omega)] using this
      have hbel : Below w.heap.size w (wr.alloc (.cells #[.int .i64 p, .int .i64 q, .int .i64 r] 95)) := HB.out.alloc HB.out.size _
      have HOWN := Lib.hid hown
      have HBEL := Lib.hid hbel
      have HSZ := Lib.hid (show (wr.alloc (.cells #[.int .i64 p, .int .i64 q, .int .i64 r] 95)).heap.size = wr.heap.size + 1 by simp)
      clear hown hbel
      go_wp2_with (first | (at_builtin; refine append_one rfl _ _ 30 rfl 3 i0 _ 8 Tryz.underlying30 hi hz0 hz1 hz2 rfl (by decide) rfl HOWN.out (by rw [HSZ.out]; rfl) rfl (by omega) HBEL.out (Nat.le_refl _) ?_; intro v' w' hown' hbel' _ _; have HO' := Lib.hid hown'; have HB' := Lib.hid hbel'; clear hown' hbel') | fail)
      go_roundw
      case rel =>
        refine ⟨j + 1, by omega, by go_num, Lib.hid ?_, HB'⟩
        have h1 := HO'.out
        have h2 : idsL (l.take (j + 1)) = idsL (l.take j) ++ [q] := by
          unfold idsL
          rw [List.take_succ_eq_append_getElem hjd, HQ.out, List.map_append, List.map_cons, List.map_nil]
        rw [h2]
        unfold IOwn
        simpa [idsL, Nat.min_eq_left (show j ≤ l.length by omega)] using h1
      case measure => simp [intOf]; omega
    · have hjd : j = l.length := by have := HL.out; omega
      have hO := HO.out
      rw [hjd, List.take_length] at hO
      obtain ⟨a', c', rfl⟩ := hO.shape
      have HO2 := Lib.hid hO
      clear hO hjd
      go_wp2_with fail
      go_ret
      exact ⟨⟨a', c', rfl, HO2.out⟩, HB.out⟩

/-- what part hands back -/
def PartEnd (w w' : World) (l m : List Y) (e : Ending) : Prop :=
  (∃ a cap a2 cap2, e = .returned (.tuple #[.slice a l.length cap, .slice a2 m.length cap2]) ∧ YOwn w.heap.size w' 95 (.slice a l.length cap) l ∧ YOwn w.heap.size w' 95 (.slice a2 m.length cap2) m) ∧ Below w.heap.size w w'

set_option maxRecDepth 100000 in
set_option maxHeartbeats 1000000 in
theorem part_any (g : Nat) (P : Addr) (pr : Y → Bool) (w : World) (a : Option Addr) (len cap : Nat) (l : List Y) (h : YIs w.heap.size w a len l) (hlen : len ≤ 1048576)
    (heg : ∀ (args : Array Value) (w1 : World), (callFunc g args).run Tryz.prog w1 = .ok (.enter g args) w1)
    (hcall : ∀ (w1 : World) (x y z : Int), Below w.heap.size w w1 → Calls Tryz.prog g #[.agg #[.int .i64 x, .int .i64 y, .int .i64 z], .pointer (some P)] w1 fun e w2 => e = .returned (.bool (pr (x, y, z))) ∧ Below w1.heap.size w1 w2) :
    Calls Tryz.prog 205 #[.slice a len cap, .func (.func g) #[] #[.pointer (some P)]] w fun e w' => PartEnd w w' (stayL pr l) (goneL pr l) e := by
  have HL := Lib.hid h.hlen
  have HT := Lib.hid h
  have HC := Lib.hid hcall
  clear h hcall
  go_enter Tryz.func205, Tryz.ntmps205
  go_wp2_with fail
  go_loopw [6, 7, 12] (fun vs vg i wr => ∃ j : Nat, j ≤ len ∧ i = .int .i64 j ∧ Hid (YOwn w.heap.size wr 95 vs (stayL pr (l.take j))) ∧ Hid (YOwn w.heap.size wr 95 vg (goneL pr (l.take j))) ∧ Hid (Below w.heap.size w wr)) (fun _ _ i _ => len - (intOf i).toNat)
  case atStart => exact ⟨0, by omega, rfl, Lib.hid (YOwn.nil _ _ _), Lib.hid (YOwn.nil _ _ _), Lib.hid (Below.refl _ _)⟩
  case round =>
    obtain ⟨j, hj, rfl, HS, HG, HB⟩ := hrel
    by_cases hlt : (j : Int) < (len : Int)
    · have hjd : j < l.length := by have := HL.out; omega
      obtain ⟨b', off, rfl, hbw, e0, e1, e2⟩ := (HT.out.below HB.out).cell j hjd
      obtain ⟨x, hx⟩ : ∃ p, p = l[j].1 := ⟨_, rfl⟩
      obtain ⟨y, hy⟩ : ∃ q, q = l[j].2.1 := ⟨_, rfl⟩
      obtain ⟨z, hz⟩ : ∃ r, r = l[j].2.2 := ⟨_, rfl⟩
      have HXY := Lib.hid (show l[j] = (x, y, z) by rw [hx, hy, hz])
      rw [← hx] at e0
      rw [← hy] at e1
      rw [← hz] at e2
      clear hx hy hz
      have HB1 := Lib.hid (bOne wr (.cells #[.int .i64 x, .int .i64 y, .int .i64 z] 95))
      have HX := Lib.hid (Bf.new wr x y z 95)
      have HLO := Lib.hid (bAfter HB.out HB1.out HB.out.size)
      go_wp2_with fail
      refine (HC.out _ x y z HLO.out).mono ?_
      rintro e w2 ⟨rfl, hb2⟩
      have HB2 := Lib.hid (bAfter HLO.out hb2 HLO.out.size)
      have HX2 := Lib.hid (HX.out.below hb2)
      have HS2 := Lib.hid ((HS.out.below HB1.out).below hb2)
      have HG2 := Lib.hid ((HG.out.below HB1.out).below hb2)
      clear hb2 e0 e1 e2 HX HS HG
      obtain ⟨c0, c1, c2, hlx⟩ := HX2.out
      cases hpr : pr (x, y, z) with
      | true =>
        obtain ⟨hs1, hg1⟩ := stayL_step_yes (p := pr) hjd (by rw [HXY.out]; exact hpr)
        rw [HXY.out] at hg1
        have HS1 := Lib.hid hs1
        have HG1 := Lib.hid hg1
        have HPR := Lib.hid hpr
        have HGL := Lib.hid (goneL_len pr (l.take j))
        have HLT := Lib.hid (List.length_take_le j l)
        obtain ⟨a2, cap2, hsh⟩ := HG2.out.shape
        rw [hsh] at HG2 ⊢
        have hn := HG2.out.isN
        have hlc := HG2.out.lecap
        obtain ⟨n, hnn⟩ : ∃ n, n = (goneL pr (l.take j)).length := ⟨_, rfl⟩
        have HNN := Lib.hid hnn
        rw [← hnn] at hn hlc ⊢
        have HN := Lib.hid hn
        clear hs1 hg1 hpr hn hsh hnn
        go_wp2_with fail
        refine (put_any _ a2 n cap2 _ x y z HN.out hlc (by have := HGL.out; have := HLT.out; have := HNN.out; have := HL.out; omega)).mono ?_
        rintro e w3 ⟨⟨a3, cap3, rfl, ho3⟩, hb3⟩
        have HS3 := Lib.hid (HS2.out.below hb3)
        have HO3 := Lib.hid (ho3.base HB2.out.size)
        have HB3 := Lib.hid (bAfter HB2.out hb3 HB2.out.size)
        clear hb3 ho3 c0 c1 c2 hlx
        go_wp2_with fail
        go_roundw
        case rel => exact ⟨j + 1, by omega, by go_num, Lib.hid (HS1.out ▸ HS3.out), Lib.hid (by rw [HG1.out]; simpa using HO3.out), HB3⟩
        case measure => simp [intOf]; omega
      | false =>
        obtain ⟨hs1, hg1⟩ := stayL_step_no (p := pr) hjd (by rw [HXY.out]; exact hpr)
        rw [HXY.out] at hs1
        have HS1 := Lib.hid hs1
        have HG1 := Lib.hid hg1
        have HPR := Lib.hid hpr
        have HGL := Lib.hid (stayL_len pr (l.take j))
        have HLT := Lib.hid (List.length_take_le j l)
        obtain ⟨a2, cap2, hsh⟩ := HS2.out.shape
        rw [hsh] at HS2 ⊢
        have hn := HS2.out.isN
        have hlc := HS2.out.lecap
        obtain ⟨n, hnn⟩ : ∃ n, n = (stayL pr (l.take j)).length := ⟨_, rfl⟩
        have HNN := Lib.hid hnn
        rw [← hnn] at hn hlc ⊢
        have HN := Lib.hid hn
        clear hs1 hg1 hpr hn hsh hnn
        go_wp2_with fail
        refine (put_any _ a2 n cap2 _ x y z HN.out hlc (by have := HGL.out; have := HLT.out; have := HNN.out; have := HL.out; omega)).mono ?_
        rintro e w3 ⟨⟨a3, cap3, rfl, ho3⟩, hb3⟩
        have HG3 := Lib.hid (HG2.out.below hb3)
        have HO3 := Lib.hid (ho3.base HB2.out.size)
        have HB3 := Lib.hid (bAfter HB2.out hb3 HB2.out.size)
        clear hb3 ho3 c0 c1 c2 hlx
        go_wp2_with fail
        go_roundw
        case rel => exact ⟨j + 1, by omega, by go_num, Lib.hid (by rw [HS1.out]; simpa using HO3.out), Lib.hid (HG1.out ▸ HG3.out), HB3⟩
        case measure => simp [intOf]; omega
    · have hjd : j = l.length := by have := HL.out; omega
      have hS := HS.out
      have hG := HG.out
      rw [hjd, List.take_length] at hS hG
      obtain ⟨a2, c2, hv2⟩ := hS.shape
      obtain ⟨a3, c3, hv3⟩ := hG.shape
      subst hv2 hv3
      have HS2 := Lib.hid hS
      have HG2 := Lib.hid hG
      clear hS hG hjd HS HG
      go_wp2_with fail
      go_ret2
      exact ⟨⟨a2, c2, a3, c3, rfl, HS2.out, HG2.out⟩, HB.out⟩

/-- what hands back a link and ints -/
def LandEnd (w w' : World) (up : Bool) (ep sq : Int) (l : List Y) (xs : List Int) (e : Ending) : Prop :=
  (∃ a cap a2 cap2, e = .returned (.tuple #[.agg #[.bool up, .int .i64 ep, .int .i64 sq, .slice a l.length cap], .slice a2 xs.length cap2]) ∧ YOwn w.heap.size w' 95 (.slice a l.length cap) l ∧ IOwn w.heap.size w' (.slice a2 xs.length cap2) xs) ∧ Below w.heap.size w w'

set_option maxRecDepth 100000 in
set_option maxHeartbeats 1000000 in
theorem land_any (g : Nat) (P : Addr) (pr : Y → Bool) (w : World) (a : Option Addr) (len cap : Nat) (up : Bool) (ep sq : Int) (l : List Y) (h : YIs w.heap.size w a len l) (hlen : len ≤ 1048576)
    (heg : ∀ (args : Array Value) (w1 : World), (callFunc g args).run Tryz.prog w1 = .ok (.enter g args) w1)
    (hcall : ∀ (w1 : World) (x y z : Int), Below w.heap.size w w1 → Calls Tryz.prog g #[.agg #[.int .i64 x, .int .i64 y, .int .i64 z], .pointer (some P)] w1 fun e w2 => e = .returned (.bool (pr (x, y, z))) ∧ Below w1.heap.size w1 w2) :
    Calls Tryz.prog 196 #[.agg #[.bool up, .int .i64 ep, .int .i64 sq, .slice a len cap], .func (.func g) #[] #[.pointer (some P)]] w fun e w' => LandEnd w w' up ep sq (stayL pr l) (idsL (goneL pr l)) e := by
  have hf := Fr2.two w up ep sq a len cap l h 82 82
  have HF := Lib.hid hf
  have HL := Lib.hid h.hlen
  have HC := Lib.hid hcall
  have HGL := Lib.hid (goneL_len pr l)
  clear h hcall hf
  go_enter Tryz.func196, Tryz.ntmps196
  go_wp2_with fail
  refine (part_any g P pr _ a len cap l HF.out.here hlen heg (fun w1 x y z hb => HC.out w1 x y z (bAfter HF.out.low hb HF.out.low.size))).mono ?_
  rintro e w3 ⟨⟨a1, cap1, a2, cap2, rfl, hs3, hg3⟩, hb3⟩
  have HF3 := Lib.hid (HF.out.step hb3)
  have HS3 := Lib.hid hs3
  have HG3 := Lib.hid hg3
  have HZ := Lib.hid (show w.heap.size + 2 ≤ w3.heap.size by have := hb3.size; simp at this; omega)
  clear hb3 hs3 hg3 HF
  obtain ⟨⟨c0, c1, c2, c3⟩, ⟨d0, d1, d2, d3⟩, ⟨f0, f1, f2, f3⟩, g3⟩ := HF3.out.cells
  have hl0 := HF3.out.b0.lt
  have hl1 := HF3.out.b1.lt
  obtain ⟨n1, hn1⟩ : ∃ n, n = (stayL pr l).length := ⟨_, rfl⟩
  obtain ⟨n2, hn2⟩ : ∃ n, n = (goneL pr l).length := ⟨_, rfl⟩
  rw [← hn1] at HS3 ⊢
  rw [← hn2] at HG3 ⊢
  have HN1 := Lib.hid hn1
  have HN2 := Lib.hid hn2
  clear hn1 hn2
  go_wp2_with fail
  have HB5 := Lib.hid (HF3.out.b0.set3 (.slice a1 n1 cap1))
  have HR5 := Lib.hid (HF3.out.b1.set ⟨w.heap.size, 3, none⟩ (.slice a1 n1 cap1) (by simp))
  have HZ5 := Lib.hid (HF3.out.f1.set ⟨w.heap.size, 3, none⟩ (.slice a1 n1 cap1))
  have HL5 := Lib.hid (show Below w.heap.size w (w3.setCell ⟨w.heap.size, 3, none⟩ (.slice a1 n1 cap1)) from HF3.out.low.setCell (by simp) _)
  have HS5 := Lib.hid (HS3.out.setLow (p := ⟨w.heap.size, 3, none⟩) (by simp; omega) (.slice a1 n1 cap1))
  have HG5 := Lib.hid (HG3.out.setLow (p := ⟨w.heap.size, 3, none⟩) (by simp; omega) (.slice a1 n1 cap1))
  clear c0 c1 c2 c3 d0 d1 d2 d3 f0 f1 f2 f3 g3 hl0 hl1 HS3 HG3
  obtain ⟨W5, hW5⟩ : ∃ W5, W5 = w3.setCell ⟨w.heap.size, 3, none⟩ (.slice a1 n1 cap1) := ⟨_, rfl⟩
  rw [← hW5] at HB5 HR5 HZ5 HL5 HS5 HG5 ⊢
  have HD := Lib.hid (show Below W5.heap.size W5 W5.drew from below_drew' (Below.refl _ _))
  have HZW := Lib.hid (show w.heap.size + 2 ≤ W5.heap.size by rw [hW5]; have := HZ.out; simpa using this)
  clear hW5
  obtain ⟨c0, c1, c2, c3, hl0⟩ := HB5.out.cells
  go_region_with (go_at_call 104; refine (flyingIds_any _ a2 n2 cap2 _ (HG5.out.drew'.isN) (by have := HGL.out; have := HL.out; have := HN2.out; omega)).mono ?_; rintro e w6 ⟨⟨a6, cap6, rfl, ho6⟩, hb6⟩; have HB6 := Lib.hid (low_after HD.out hb6); have HO6 := Lib.hid ho6; clear hb6 ho6; obtain ⟨e0, e1, e2, e3, el⟩ := (HB5.out.below HB6.out).cells; obtain ⟨d0, d1, d2, d3, dl⟩ := (HR5.out.below HB6.out).cells; have hz6 := HZ5.out.low HB6.out HR5.out.lt; have f0 := hz6 0; have f1 := hz6 1; have f2 := hz6 2; have f3 := hz6 3; clear hz6)
  all_goals
    go_wp2_with fail
    have hs6 := HS5.out.below HB6.out
    have hsz := HB6.out.size
    have hzz := HZW.out
    refine bodyPost_ret (v := .tuple #[.agg #[.bool up, .int .i64 ep, .int .i64 sq, .slice a1 n1 cap1], .slice a6 (idsL (goneL pr l)).length cap6]) (by simp [results, Tryz.results196, go_sem, d0, d1, d2, d3]) rfl ⟨⟨a1, cap1, a6, cap6, by rw [HN1.out], ?_, ?_⟩, ?_⟩
    · rw [← HN1.out]
      exact ((((hs6.setLow (by simp) _).setLow (by simp) _).setLow (by simp) _).setLow (by simp) _).base (by simp; omega)
    · exact ((((HO6.out.setLow (by simp; omega) _).setLow (by simp; omega) _).setLow (by simp; omega) _).setLow (by simp; omega) _).base (by simp; omega)
    · exact ((((bAfter HL5.out HB6.out HL5.out.size).setCell (by simp) _).setCell (by simp) _).setCell (by simp) _).setCell (by simp) _
end Go.Proofs.YtkndpkingmemoaaGreatDoor.Lnk
namespace Go.Proofs.YtkndpkingmemoaaGreatDoor.Lnk
open Go.RowKit
open Go.Proofs.YtkndpkingmemoaaGreatDoor.Kit (append_one)
set_option linter.unusedVariables false

end Go.Proofs.YtkndpkingmemoaaGreatDoor.Lnk
namespace Go.Proofs.YtkndpkingmemoaaGreatDoor.Lnk
open Go.RowKit
set_option linter.unusedVariables false

end Go.Proofs.YtkndpkingmemoaaGreatDoor.Lnk
namespace Go.Proofs.YtkndpkingmemoaaGreatDoor.Lnk
open Go.RowKit
set_option linter.unusedVariables false

end Go.Proofs.YtkndpkingmemoaaGreatDoor.Lnk
namespace Go.Proofs.YtkndpkingmemoaaGreatDoor.Lnk
open Go.RowKit
set_option linter.unusedVariables false

end Go.Proofs.YtkndpkingmemoaaGreatDoor.Lnk
namespace Go.Proofs.YtkndpkingmemoaaGreatDoor.Lnk
open Go.RowKit
set_option linter.unusedVariables false

end Go.Proofs.YtkndpkingmemoaaGreatDoor.Lnk
namespace Go.Proofs.YtkndpkingmemoaaGreatDoor.Evt
open Go.RowKit
set_option linter.unusedVariables false

def OpenP (s : Int) : Prop := s = 0 ∨ s = 1
instance (s : Int) : Decidable (OpenP s) := by unfold OpenP; infer_instance
def openB (s : Int) : Bool := decide (OpenP s)
def OldP (a t s now : Int) : Prop := OpenP s ∧ a + t ≤ now
instance (a t s now : Int) : Decidable (OldP a t s now) := by unfold OldP; infer_instance
def RdyP (a t n s now : Int) : Prop := s = 0 ∧ n ≤ now ∧ ¬ (a + t ≤ now)
instance (a t n s now : Int) : Decidable (RdyP a t n s now) := by unfold RdyP; infer_instance
/-- a box of a message's times and status -/
structure M4 (w : World) (k : Nat) (a t n s : Int) : Prop where
  c0 : w.cell? ⟨k, 0, none⟩ = some (.int .i64 a)
  c1 : w.cell? ⟨k, 1, none⟩ = some (.int .i64 t)
  c2 : w.cell? ⟨k, 2, none⟩ = some (.int .i64 n)
  c3 : w.cell? ⟨k, 3, none⟩ = some (.int .i64 s)
  lt : k < w.heap.size
theorem M4.new (w : World) (a t n s : Int) (ty : TypeId) : M4 (w.alloc (.cells #[.int .i64 a, .int .i64 t, .int .i64 n, .int .i64 s] ty)) w.heap.size a t n s :=
  ⟨cell_of_row _ _ 0 _ ty (0, 0) (heap_alloc_new w _), cell_of_row _ _ 1 _ ty (0, 0) (heap_alloc_new w _), cell_of_row _ _ 2 _ ty (0, 0) (heap_alloc_new w _), cell_of_row _ _ 3 _ ty (0, 0) (heap_alloc_new w _), by simp⟩
theorem M4.below {w w' : World} {k : Nat} {a t n s : Int} (h : M4 w k a t n s) (hb : Below w.heap.size w w') : M4 w' k a t n s :=
  ⟨(hb.cell (p := ⟨k, 0, none⟩) h.lt).trans h.c0, (hb.cell (p := ⟨k, 1, none⟩) h.lt).trans h.c1, (hb.cell (p := ⟨k, 2, none⟩) h.lt).trans h.c2, (hb.cell (p := ⟨k, 3, none⟩) h.lt).trans h.c3, Nat.lt_of_lt_of_le h.lt hb.size⟩

theorem open_any (a t n s : Int) (w : World) :
    Calls Tryz.prog 51 #[.agg #[.int .i64 a, .int .i64 t, .int .i64 n, .int .i64 s]] w fun e w' => e = .returned (.bool (openB s)) ∧ Below w.heap.size w w' := by
  rcases (show s = 0 ∨ s = 1 ∨ (s ≠ 0 ∧ s ≠ 1) by omega) with rfl | rfl | ⟨h0, h1⟩
  · go_enter Tryz.func51, Tryz.ntmps51
    go_wp2
    go_ret
    exact ⟨rfl, bOne _ _⟩
  · go_enter Tryz.func51, Tryz.ntmps51
    go_wp2
    go_ret
    exact ⟨rfl, bOne _ _⟩
  · have e0 : (s == 0) = false := beq_eq_false_iff_ne.2 h0
    have e1 : (s == 1) = false := beq_eq_false_iff_ne.2 h1
    have HO := Lib.hid (show openB s = false from decide_eq_false (by unfold OpenP; omega))
    go_enter Tryz.func51, Tryz.ntmps51
    go_wp2
    go_ret
    exact ⟨by rw [HO.out]; rfl, bOne _ _⟩

end Go.Proofs.YtkndpkingmemoaaGreatDoor.Evt
namespace Go.Proofs.YtkndpkingmemoaaGreatDoor.Gat
open Go.RowKit
open Lnk (bOne bAfter IOwn IIs below_keep below_drew' bcell low_after low_alloc)
set_option linter.unusedVariables false

def isDS (d s : Int) (e : Ev) : Bool := (e.d == d) && (e.s == s)
def isO (d : Int) (e : Ev) : Bool := (e.d == d) && Evt.openB e.s
def cntN (d s : Int) (l : List Ev) : Nat := l.countP (isDS d s)
def openN (d : Int) (l : List Ev) : Nat := l.countP (isO d)
theorem openN_le (d : Int) (l : List Ev) : openN d l ≤ l.length := List.countP_le_length
theorem cnt_next {p : Ev → Bool} {l : List Ev} {j : Nat} (h : j < l.length) : (l.take (j + 1)).countP p = (l.take j).countP p + (if p l[j] then 1 else 0) := by
  rw [List.take_succ_eq_append_getElem h, List.countP_append, List.countP_singleton]
end Go.Proofs.YtkndpkingmemoaaGreatDoor.Gat
