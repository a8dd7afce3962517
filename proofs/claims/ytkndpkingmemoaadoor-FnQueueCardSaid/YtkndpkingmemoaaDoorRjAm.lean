/-
  A gate with one message that waits: it stays right whoever comes and goes.
-/
import Derived.Test.YtkndpkingmemoaaDoorWtAm
import Derived.Test.YtkndpkingmemoaaDoorMgt
import Derived.Test.YtkndpkingmemoaaDoorMgn
import Derived.Test.YtkndpkingmemoaaDoorMge
namespace Go.Proofs.YtkndpkingmemoaaDoor.Gat
open Go.RowKit Go.Proofs.YtkndpkingmemoaaDoor.Kit
open Lnk (bOne bAfter IOwn IIs below_keep below_drew' bcell low_after low_alloc grown_of_below)
set_option linter.unusedVariables false
set_option linter.unusedSimpArgs false

def staysS : ByteArray := ⟨#[115, 116, 97, 121, 115]⟩
/-- the message -/
def evS1 (d : Int) : Ev := ⟨1, d, 1, staysS, 0, 900, 0, 0, 0⟩
def RjK (n : Nat) (K : List Lk) : Prop := K.length = n ∧ ∀ k ∈ K, Lnk.LOk k.up k.ep k.sq k.l ∧ k.l = []
theorem rjk_new (n : Nat) : RjK n (List.replicate n lk0) := ⟨List.length_replicate, fun k hk => by
  rw [List.eq_of_mem_replicate hk]
  refine ⟨?_, rfl⟩
  exact (Lnk.lok_iff _ _ _ _).2 ⟨by simp [lk0], fun j hj => by simp [lk0] at hj⟩⟩
theorem lok_none {up : Bool} {ep sq : Int} (h0 : 0 ≤ ep) (h1 : ep ≤ 60000) (h2 : 0 ≤ sq) (h3 : sq ≤ 60000) : Lnk.LOk up ep sq [] :=
  (Lnk.lok_iff _ _ _ _).2 ⟨⟨h0, h1, h2, h3, by simp, by simp⟩, fun j hj => by simp at hj⟩
theorem rjk_bd {n : Nat} {K : List Lk} (h : RjK n K) {k : Lk} (hk : k ∈ K) : 0 ≤ k.ep ∧ k.ep ≤ 60000 ∧ 0 ≤ k.sq ∧ k.sq ≤ 60000 := by
  have h1 := ((Lnk.lok_iff _ _ _ _).1 (h.2 k hk).1).1
  exact ⟨h1.1, h1.2.1, h1.2.2.1, h1.2.2.2.1⟩
theorem rjk_set {n : Nat} {K : List Lk} (h : RjK n K) (m : Nat) (up : Bool) {ep sq : Int} (h0 : 0 ≤ ep) (h1 : ep ≤ 60000) (h2 : 0 ≤ sq) (h3 : sq ≤ 60000) : RjK n (K.set m ⟨up, ep, sq, []⟩) :=
  ⟨by rw [List.length_set]; exact h.1, fun k hk => by
    rcases List.mem_or_eq_of_mem_set hk with hk | rfl
    · exact h.2 k hk
    · exact ⟨lok_none h0 h1 h2 h3, rfl⟩⟩
theorem join_rj {k : Lk} (h : Lnk.LOk k.up k.ep k.sq k.l ∧ k.l = []) (he : k.ep < 60000) : joinK k = ⟨true, k.ep + 1, 0, []⟩ ∧ joinI k = [] := by
  have hj : Lnk.joiB k.up k.ep k.sq k.l = true := by unfold Lnk.joiB; rw [Lnk.lokB_true h.1]; simp; omega
  unfold joinK joinI Lnk.joU Lnk.joE Lnk.joS Lnk.joL Lnk.joI
  rw [hj, h.2]
  exact ⟨rfl, rfl⟩
theorem leave_rj {k : Lk} (h : Lnk.LOk k.up k.ep k.sq k.l ∧ k.l = []) : leaveK k = ⟨false, k.ep, k.sq, []⟩ ∧ leaveI k = [] := by
  unfold leaveK leaveI Lnk.leU Lnk.leL Lnk.leI
  rw [Lnk.lokB_true h.1, h.2]
  exact ⟨rfl, rfl⟩
theorem open_one (d : Int) : openN d [evS1 d] = 1 := by
  unfold openN isO evS1
  simp [Evt.openB, Evt.OpenP]
theorem open_le (d x : Int) : (openN d [evS1 x] : Int) ≤ 1 := by
  have : openN d [evS1 x] ≤ 1 := List.countP_le_length
  omega
theorem at_one (d : Int) : atI 1 [evS1 d] = 0 := by
  unfold atI isI evS1
  simp
theorem ev_wf (d : Int) : ∀ e ∈ [evS1 d], (Lit.int .i64 e.i).wf = true := by
  intro e he
  rw [List.mem_singleton.1 he]
  show (Lit.int .i64 1).wf = true
  decide

theorem gok_rj {n : Nat} {qu wi ti qa bu le pb pc pj : Int} (hc : CfgL (n : Int) qu wi ti qa bu le pb pc pj) {K : List Lk} (hK : RjK n K) {d : Int} (hd1 : 1 ≤ d) (hd2 : d ≤ n) :
    gokB (n : Int) qu wi ti qa bu le pb pc pj 1000 0 1 1 n 0 n 0 1 0 0 [evS1 d] K (List.replicate n 0) [] = true :=
  gok_wait hc (E := [evS1 d]) (fun k hk => by
    obtain rfl : k = 0 := by simpa using hk
    exact ⟨d, staysS, 900, rfl, hd1, hd2, by decide, by omega, by omega⟩) (by simp) hK.1 hK.2 (fun x => by have := open_le x d; have := hc.2.1; omega)
theorem small_rj {n : Nat} {K : List Lk} (hn : n ≤ 1000) (hK : RjK n K) : Small 1 n n 0 K :=
  ⟨by omega, by omega, fun k hk => by rw [(hK.2 k hk).2]; simp, by omega, by omega⟩
theorem nowf : ∀ x ∈ ([] : List Int), (Lit.int .i64 x).wf = true := fun x hx => (by cases hx)

theorem conn_rj (w : World) (n : Nat) (qu wi ti qa bu le pb pc pj : Int) (ea : Option Addr) (ec : Nat) (ka : Option Addr) (kc : Nat) (fa : Option Addr) (fc : Nat) (ra : Option Addr) (rc : Nat) (K : List Lk) (d : Int) (m : Nat) (hc : CfgL (n : Int) qu wi ti qa bu le pb pc pj) (hK : RjK n K) (hm : m < K.length) (hd : d = (m : Int) + 1) (hep : K[m].ep < 60000) (h : GIs w.heap.size w ea 1 ka n fa n ra 0 [evS1 d] K (List.replicate n 0) []) :
    Calls Tryd.prog 14 #[.agg #[.int .i64 n, .int .i64 qu, .int .i64 wi, .int .i64 ti, .int .i64 qa, .int .i64 bu, .int .i64 le, .int .i64 pb, .int .i64 pc, .int .i64 pj, .int .i64 1000, .int .i64 0, .int .i64 1, .slice ea 1 ec, .slice ka n kc, .int .i64 0, .slice fa n fc, .slice ra 0 rc, .int .i64 1, .int .i64 0, .int .i64 0], .int .i64 d] w fun e w' => (∃ ea' ec' ka' kc' fa' fc' ra' rc' vs, e = .returned (.agg #[.int .i64 n, .int .i64 qu, .int .i64 wi, .int .i64 ti, .int .i64 qa, .int .i64 bu, .int .i64 le, .int .i64 pb, .int .i64 pc, .int .i64 pj, .int .i64 1000, .int .i64 0, .int .i64 1, .slice ea' 1 ec', .slice ka' n kc', .int .i64 0, .slice fa' n fc', .slice ra' 0 rc', .int .i64 1, .int .i64 0, .int .i64 0]) ∧ GOwn w.heap.size w' (.slice ea' 1 ec') (.slice ka' n kc') (.slice fa' n fc') (.slice ra' 0 rc') vs [evS1 d] (K.set m ⟨true, K[m].ep + 1, 0, []⟩) (List.replicate n 0) []) ∧ Below w.heap.size w w' := by
  have hn := hc.1
  have hKn := hK.1
  have hok := gok_rj hc hK (d := d) (by omega) (by omega)
  have hin : inB 1 (n : Int) d = true := by unfold inB; simp; omega
  have hl := join_rj (k := K[m]) (hK.2 _ (List.getElem_mem hm)) hep
  have hck : conK joinK true K d = K.set m ⟨true, K[m].ep + 1, 0, []⟩ := by rw [conK_at hm hd rfl, hl.1]
  have hce : conE joinI true K [evS1 d] d = [evS1 d] := by rw [conE_at hm hd rfl, hl.2]; rfl
  refine (implConn_any w (n : Int) qu wi ti qa bu le pb pc pj 1000 0 1 ea 1 ec ka n kc 0 fa n fc ra 0 rc 1 0 0 [evS1 d] K (List.replicate n 0) [] d (ev_wf d) nowf h (small_rj (by omega) hK)).mono ?_
  rintro e w' ⟨⟨ea', ec', ka', kc', fa', fc', ra', rc', vs, he, ho⟩, hb⟩
  rw [hok, hin, Bool.and_self, hck, hce] at he ho
  rw [List.length_set, hKn, List.length_replicate] at he
  rw [List.length_set, hKn, List.length_replicate] at ho
  exact ⟨⟨ea', ec', ka', kc', fa', fc', ra', rc', vs, he, ho⟩, hb⟩

theorem disc_rj (w : World) (n : Nat) (qu wi ti qa bu le pb pc pj : Int) (ea : Option Addr) (ec : Nat) (ka : Option Addr) (kc : Nat) (fa : Option Addr) (fc : Nat) (ra : Option Addr) (rc : Nat) (K : List Lk) (d : Int) (m : Nat) (hc : CfgL (n : Int) qu wi ti qa bu le pb pc pj) (hK : RjK n K) (hm : m < K.length) (hd : d = (m : Int) + 1) (h : GIs w.heap.size w ea 1 ka n fa n ra 0 [evS1 d] K (List.replicate n 0) []) :
    Calls Tryd.prog 15 #[.agg #[.int .i64 n, .int .i64 qu, .int .i64 wi, .int .i64 ti, .int .i64 qa, .int .i64 bu, .int .i64 le, .int .i64 pb, .int .i64 pc, .int .i64 pj, .int .i64 1000, .int .i64 0, .int .i64 1, .slice ea 1 ec, .slice ka n kc, .int .i64 0, .slice fa n fc, .slice ra 0 rc, .int .i64 1, .int .i64 0, .int .i64 0], .int .i64 d] w fun e w' => (∃ ea' ec' ka' kc' fa' fc' ra' rc' vs, e = .returned (.agg #[.int .i64 n, .int .i64 qu, .int .i64 wi, .int .i64 ti, .int .i64 qa, .int .i64 bu, .int .i64 le, .int .i64 pb, .int .i64 pc, .int .i64 pj, .int .i64 1000, .int .i64 0, .int .i64 1, .slice ea' 1 ec', .slice ka' n kc', .int .i64 0, .slice fa' n fc', .slice ra' 0 rc', .int .i64 1, .int .i64 0, .int .i64 0]) ∧ GOwn w.heap.size w' (.slice ea' 1 ec') (.slice ka' n kc') (.slice fa' n fc') (.slice ra' 0 rc') vs [evS1 d] (K.set m ⟨false, K[m].ep, K[m].sq, []⟩) (List.replicate n 0) []) ∧ Below w.heap.size w w' := by
  have hn := hc.1
  have hKn := hK.1
  have hok := gok_rj hc hK (d := d) (by omega) (by omega)
  have hin : inB 1 (n : Int) d = true := by unfold inB; simp; omega
  have hl := leave_rj (k := K[m]) (hK.2 _ (List.getElem_mem hm))
  have hck : conK leaveK true K d = K.set m ⟨false, K[m].ep, K[m].sq, []⟩ := by rw [conK_at hm hd rfl, hl.1]
  have hce : conE leaveI true K [evS1 d] d = [evS1 d] := by rw [conE_at hm hd rfl, hl.2]; rfl
  refine (implDisc_any w (n : Int) qu wi ti qa bu le pb pc pj 1000 0 1 ea 1 ec ka n kc 0 fa n fc ra 0 rc 1 0 0 [evS1 d] K (List.replicate n 0) [] d (ev_wf d) nowf h (small_rj (by omega) hK)).mono ?_
  rintro e w' ⟨⟨ea', ec', ka', kc', fa', fc', ra', rc', vs, he, ho⟩, hb⟩
  rw [hok, hin, Bool.and_self, hck, hce] at he ho
  rw [List.length_set, hKn, List.length_replicate] at he
  rw [List.length_set, hKn, List.length_replicate] at ho
  exact ⟨⟨ea', ec', ka', kc', fa', fc', ra', rc', vs, he, ho⟩, hb⟩

theorem gok_new' {n : Nat} {qu wi ti qa bu le pb pc pj : Int} (h : CfgL (n : Int) qu wi ti qa bu le pb pc pj) : gokB (n : Int) qu wi ti qa bu le pb pc pj 1000 0 0 0 n 0 n 0 0 0 0 [] (List.replicate n lk0) (List.replicate n 0) [] = true :=
  gok_wait h (E := []) (fun k hk => (by simp at hk)) (by simp) List.length_replicate (rjk_new n).2 (fun d => by have := h.2.1; show ((0 : Nat) : Int) ≤ qu; omega)
theorem small_new' {n : Nat} (hn : n ≤ 1000) : Small 0 n n 0 (List.replicate n lk0) := by
  refine ⟨by omega, by omega, fun k hk => ?_, by omega, by omega⟩
  rw [List.eq_of_mem_replicate hk]
  decide
theorem subm_rj (w : World) (n : Nat) (qu wi ti qa bu le pb pc pj : Int) (ea : Option Addr) (ec : Nat) (ka : Option Addr) (kc : Nat) (fa : Option Addr) (fc : Nat) (ra : Option Addr) (rc : Nat) (d : Int) (hc : CfgL (n : Int) qu wi ti qa bu le pb pc pj) (hd1 : 1 ≤ d) (hd2 : d ≤ n) (hg : ErrT w) (h : GIs w.heap.size w ea 0 ka n fa n ra 0 [] (List.replicate n lk0) (List.replicate n 0) []) :
    Calls Tryd.prog 10 #[.agg #[.int .i64 n, .int .i64 qu, .int .i64 wi, .int .i64 ti, .int .i64 qa, .int .i64 bu, .int .i64 le, .int .i64 pb, .int .i64 pc, .int .i64 pj, .int .i64 1000, .int .i64 0, .int .i64 0, .slice ea 0 ec, .slice ka n kc, .int .i64 0, .slice fa n fc, .slice ra 0 rc, .int .i64 0, .int .i64 0, .int .i64 0], .int .i64 d, .int .i64 1, .string staysS, .int .i64 900] w fun e w' => (∃ ea' ec' ka' kc' fa' fc' ra' rc' vs, e = .returned (.tuple #[.agg #[.int .i64 n, .int .i64 qu, .int .i64 wi, .int .i64 ti, .int .i64 qa, .int .i64 bu, .int .i64 le, .int .i64 pb, .int .i64 pc, .int .i64 pj, .int .i64 1000, .int .i64 0, .int .i64 1, .slice ea' 1 ec', .slice ka' n kc', .int .i64 0, .slice fa' n fc', .slice ra' 0 rc', .int .i64 1, .int .i64 0, .int .i64 0], .int .i64 1, .int .i64 0]) ∧ GOwn w.heap.size w' (.slice ea' 1 ec') (.slice ka' n kc') (.slice fa' n fc') (.slice ra' 0 rc') vs [evS1 d] (List.replicate n lk0) (List.replicate n 0) []) ∧ Below w.heap.size w w' := by
  have hn := hc.1
  have hqu := hc.2.1
  have hin : inB 1 (n : Int) d = true := by unfold inB; simp; omega
  have hq : decide (qu ≤ ((openN d [] : Nat) : Int)) = false := by
    have : openN d [] = 0 := rfl
    rw [this]
    simp
    omega
  have hsub : subC true 0 n d 1 staysS.size 1000 900 qu 0 0 [] = 0 := by
    unfold subC
    rw [hin, hq]
    rfl
  refine (implSubmit_any w (n : Int) qu wi ti qa bu le pb pc pj 1000 0 0 ea 0 ec ka n kc 0 fa n fc ra 0 rc 0 0 0 [] (List.replicate n lk0) (List.replicate n 0) [] d 1 staysS 900 (fun e he => (by cases he)) nowf h (small_new' (by omega)) (by decide) hg).mono ?_
  rintro e w' ⟨⟨ea', ec', ka', kc', fa', fc', ra', rc', vs, he, ho⟩, hb⟩
  rw [gok_new' hc, hsub] at he ho
  rw [List.length_replicate, List.length_replicate] at he
  rw [List.length_replicate, List.length_replicate] at ho
  exact ⟨⟨ea', ec', ka', kc', fa', fc', ra', rc', vs, he, ho⟩, hb⟩

end Go.Proofs.YtkndpkingmemoaaDoor.Gat
