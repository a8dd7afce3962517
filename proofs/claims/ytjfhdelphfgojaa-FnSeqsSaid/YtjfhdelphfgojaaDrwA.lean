/-
  The draws as functions: what is drawn from a code, and the cursor's state behind it. No program in sight.
-/
import Derived.Test.YtjfhdelphfgojaaDrawA
namespace Go.Proofs.Ytjfhdelphfgojaa.Kit
open Go.RowKit
set_option linter.unusedVariables false

/-- the cursor's number behind one step -/
def nextH (h : Int) : Int := wrap64 (wrap64 (h * 6364136223846793005) + 1442695040888963407)
/-- the byte that a number gives -/
def outH (h : Int) : Int := bits .and .i64 (bits .xor .i64 (h / 8589934592) (h / 35184372088832)) 255
/-- a byte drawn: c tells the code's bytes, len how many; the state is the place and the number -/
def byteF (c : Nat → Int) (len : Nat) (s : Nat × Int) : Int × (Nat × Int) :=
  if s.1 < len then (bits .and .i64 (outH (nextH s.2) + c s.1) 255, (s.1 + 1, nextH s.2)) else (outH (nextH s.2), (s.1, nextH s.2))
/-- a number below n drawn, n at most 256 -/
def belowF (c : Nat → Int) (len : Nat) (n : Int) (s : Nat × Int) : Int × (Nat × Int) := ((byteF c len s).1 % n, (byteF c len s).2)
theorem outH_bd (h : Int) : 0 ≤ outH h ∧ outH h ≤ 255 := and_255 _
theorem byteF_bd (c : Nat → Int) (len : Nat) (s : Nat × Int) : 0 ≤ (byteF c len s).1 ∧ (byteF c len s).1 ≤ 255 := by
  unfold byteF; split <;> exact and_255 _
theorem byteF_le (c : Nat → Int) (len : Nat) (s : Nat × Int) (h : s.1 ≤ len) : (byteF c len s).2.1 ≤ len := by
  unfold byteF; split <;> simp <;> omega

/-- The code: its bytes are c, and lie below block B. -/
structure CodeIs (B : Nat) (w : World) (a : Option Addr) (len cap : Nat) (c : Nat → Int) : Prop where
  le : len ≤ maxLen
  cell : ∀ i, i < len → ∃ b off, a = some ⟨b, off, none⟩ ∧ b < B ∧ 0 ≤ c i ∧ c i < 256 ∧ w.cell? ⟨b, off + i, none⟩ = some (.int .u8 (c i))
theorem IsRow.codeIs {w : World} {a : Option Addr} {len cap : Nat} {zs : List Int} (h : IsRow .u8 w a len cap zs) : CodeIs w.heap.size w a len cap (fun i => zs.getD i 0) := by
  rcases h with ⟨rfl, rfl, rfl, rfl⟩ | ⟨x, rfl, hl, hm, hz, hc, hw⟩
  · exact ⟨by unfold maxLen; omega, fun i hi => by omega⟩
  · refine ⟨by omega, fun i hi => ?_⟩
    obtain ⟨b, off, spot⟩ := x
    have hci := hc i (by omega)
    have hs : spot = none := World.cell?_spot (hc 0 (by omega))
    subst hs
    rw [add_none] at hci
    have hlt := World.block_lt_of_cell? w _ hci
    have hwi := hw (zs.getD i 0) (by rw [List.getD_eq_getElem?_getD, List.getElem?_eq_getElem (by omega)]; exact List.getElem_mem _)
    simp [Lit.wf, IntKind.min, IntKind.max, IntKind.signed, IntKind.bits] at hwi
    exact ⟨b, off, rfl, hlt, by simp; omega, by simp; omega, hci⟩
theorem CodeIs.below {B : Nat} {w w' : World} {a : Option Addr} {len cap : Nat} {c : Nat → Int} (h : CodeIs B w a len cap c) (hb : Below B w w') : CodeIs B w' a len cap c :=
  ⟨h.le, fun i hi => by
    obtain ⟨b, off, e, hlt, h0, h1, hc⟩ := h.cell i hi
    exact ⟨b, off, e, hlt, h0, h1, (hb.cell (p := ⟨b, off + i, none⟩) hlt).trans hc⟩⟩
theorem CodeIs.mono {B B' : Nat} {w : World} {a : Option Addr} {len cap : Nat} {c : Nat → Int} (h : CodeIs B w a len cap c) (hB : B ≤ B') : CodeIs B' w a len cap c :=
  ⟨h.le, fun i hi => by
    obtain ⟨b, off, e, hlt, h0, h1, hc⟩ := h.cell i hi
    exact ⟨b, off, e, Nat.lt_of_lt_of_le hlt hB, h0, h1, hc⟩⟩

/-- A cursor in use, at state s. -/
structure Drw (B : Nat) (w : World) (cb : Nat) (T : TypeId) (a : Option Addr) (len cap : Nat) (c : Nat → Int) (s : Nat × Int) : Prop where
  pl : s.1 ≤ len
  cur : w.heap[cb]? = some (.cells #[.slice a len cap, .int .i64 (s.1 : Int), .int .i64 s.2] T (0, 0))
  code : CodeIs B w a len cap c
  le : B ≤ cb
theorem Drw.lt {B : Nat} {w : World} {cb : Nat} {T : TypeId} {a : Option Addr} {len cap : Nat} {c : Nat → Int} {s : Nat × Int} (h : Drw B w cb T a len cap c s) : cb < w.heap.size := lt_of_block h.cur
/-- The cursor, and what else lies, behind a draw. -/
structure Wnt (B : Nat) (w w' : World) (cb : Nat) (T : TypeId) (a : Option Addr) (len cap : Nat) (c : Nat → Int) (s : Nat × Int) : Prop where
  dr : Drw B w' cb T a len cap c s
  grown : w.grownBy w' (some cb)
section
variable {B : Nat} {w w1 w2 : World} {cb : Nat} {T : TypeId} {a : Option Addr} {len cap : Nat} {c : Nat → Int} {s s1 s2 : Nat × Int}
theorem Wnt.mk' (h : Drw B w cb T a len cap c s) (hp : s1.1 ≤ len) (hc : w1.heap[cb]? = some (.cells #[.slice a len cap, .int .i64 (s1.1 : Int), .int .i64 s1.2] T (0, 0))) (hg : w.grownBy w1 (some cb)) : Wnt B w w1 cb T a len cap c s1 :=
  ⟨⟨hp, hc, h.code.below (grown_below hg h.le (Nat.le_of_lt (Nat.lt_of_le_of_lt h.le h.lt))), h.le⟩, hg⟩
theorem Wnt.trans (h : Wnt B w w1 cb T a len cap c s1) (k : Wnt B w1 w2 cb T a len cap c s2) : Wnt B w w2 cb T a len cap c s2 := ⟨k.dr, grown_trans h.grown k.grown⟩
theorem Drw.refl (h : Drw B w cb T a len cap c s) : Wnt B w w cb T a len cap c s := ⟨h, grown_refl _ _⟩
theorem Wnt.alloc (h : Wnt B w w1 cb T a len cap c s) (o : Obj) : Wnt B w (w1.alloc o) cb T a len cap c s :=
  h.trans (Wnt.mk' h.dr h.dr.pl ((Below.heap_alloc _ _ _ h.dr.lt).trans h.dr.cur) (World.grownBy_alloc _ _ _))
theorem Wnt.below (h : Wnt B w w1 cb T a len cap c s) (hs : B ≤ w.heap.size) : Below B w w1 := grown_below h.grown h.dr.le hs
/-- whatever else changes, not touching the cursor nor what lies below B -/
theorem Drw.keep (h : Drw B w cb T a len cap c s) (hb : Below B w w1) (hc : w1.heap[cb]? = w.heap[cb]?) : Drw B w1 cb T a len cap c s := ⟨h.pl, hc.trans h.cur, h.code.below hb, h.le⟩
end
/-- the number that a new cursor begins with -/
def hashF (c : Nat → Int) (len : Nat) : Nat → Int
  | 0 => wrap64 (814814 + (len : Int))
  | k + 1 => bits .and .i64 (wrap64 (wrap64 (wrap64 (hashF c len k * 131) + c k) + 7)) 1073741823
def newF (c : Nat → Int) (len : Nat) : Nat × Int := (0, hashF c len (min len 4000))
/-- a list of texts in a block of its own -/
def StrsIs (w : World) (g : Nat) (L : List ByteArray) : Prop := ∀ j (h : j < L.length), w.cell? ⟨g, j, none⟩ = some (.string L[j])
theorem strsIs_new (w : World) (L : List ByteArray) (T : TypeId) : StrsIs (w.alloc (.cells (L.map Value.string).toArray T)) w.heap.size L := by
  intro j hj
  have hb : (w.alloc (.cells (L.map Value.string).toArray T)).heap[w.heap.size]? = some (.cells (L.map Value.string).toArray T (0, 0)) := heap_alloc_new w _
  rw [cell_of_row _ _ j _ T (0, 0) hb]
  simp [hj]
/-- a text of L drawn -/
def pickF (L : List ByteArray) (c : Nat → Int) (len : Nat) (s : Nat × Int) : ByteArray × (Nat × Int) := (L.getD (belowF c len L.length s).1.toNat ByteArray.empty, (belowF c len L.length s).2)
/-- k texts of L drawn, one behind the other -/
def textF (L : List ByteArray) (c : Nat → Int) (len : Nat) (s : Nat × Int) : Nat → ByteArray × (Nat × Int)
  | 0 => (⟨#[]⟩, s)
  | k + 1 => ((textF L c len s k).1 ++ (pickF L c len (textF L c len s k).2).1, (pickF L c len (textF L c len s k).2).2)
theorem pickF_size (L : List ByteArray) (c : Nat → Int) (len : Nat) (s : Nat × Int) (h : ∀ x ∈ L, x.size ≤ 2) : (pickF L c len s).1.size ≤ 2 := by
  unfold pickF
  show (L.getD _ ByteArray.empty).size ≤ 2
  rw [List.getD_eq_getElem?_getD]
  cases hx : L[(belowF c len L.length s).1.toNat]? with
  | none => simp
  | some x => exact h x (List.mem_of_getElem? hx)
theorem textF_size (L : List ByteArray) (c : Nat → Int) (len : Nat) (s : Nat × Int) (h : ∀ x ∈ L, x.size ≤ 2) (k : Nat) : (textF L c len s k).1.size ≤ 2 * k := by
  induction k with
  | zero => exact Nat.le_refl _
  | succ k ih =>
    show ((textF L c len s k).1 ++ (pickF L c len (textF L c len s k).2).1).size ≤ _
    rw [ByteArray.size_append]
    have := pickF_size L c len (textF L c len s k).2 h
    omega
/-- a text drawn from L: how many parts, then these -/
def drawF (L : List ByteArray) (c : Nat → Int) (len : Nat) : ByteArray := (textF L c len (belowF c len 7 (newF c len)).2 (belowF c len 7 (newF c len)).1.toNat).1
theorem belowF_bd (c : Nat → Int) (len : Nat) (n : Int) (s : Nat × Int) (h : 1 ≤ n) : 0 ≤ (belowF c len n s).1 ∧ (belowF c len n s).1 < n := ⟨Int.emod_nonneg _ (by omega), Int.emod_lt_of_pos _ (by omega)⟩
theorem drawF_size (L : List ByteArray) (c : Nat → Int) (len : Nat) (h : ∀ x ∈ L, x.size ≤ 2) : (drawF L c len).size ≤ 12 := by
  have h1 := textF_size L c len (belowF c len 7 (newF c len)).2 h (belowF c len 7 (newF c len)).1.toNat
  have h2 := belowF_bd c len 7 (newF c len) (by omega)
  unfold drawF
  omega
end Go.Proofs.Ytjfhdelphfgojaa.Kit
