/-
  Text: what is written of a definition, whole.
-/
import Derived.Test.YtlholgpenpfpbaaDoorS10
import Derived.Test.YtlholgpenpfpbaaDoorS09
import Derived.Test.YtlholgpenpfpbaaDoorS06
import Derived.Deep.RegionHeld3
import Derived.Deep.QuietTactic
import Derived.BigQuiet
namespace Go.Proofs.YtlholgpenpfpbaaDoor
open Go.RowKit

theorem BSt.new {w w1 : World} {C : Array Value} (K : Kept (fun _ => False) (w.alloc (.cells C 26)) w1) : BSt w (w1.alloc (.cells #[.pointer none, .slice none 0 0] 56)) C w1.heap.size [] := by
  have hs := K.size
  rw [World.size_alloc] at hs
  have hb : w1.heap[w.heap.size]? = some (.cells C 26 (0, 0)) := (K.block _ (by rw [World.size_alloc]; omega) (fun h => h)).trans (heap_alloc_new _ _)
  refine ⟨.inl ⟨Nat.le_refl _, .slice none 0 0, heap_alloc_new _ _, World.ownsRowF_nil _ _ _ _, by simp [Value.ownBlock]⟩, ?_, ((Kept.alloc _ _ _).and K).and (Kept.alloc _ _ _), by omega, by rw [World.size_alloc]; omega⟩
  rw [Below.heap_alloc _ _ _ (by omega)]
  exact hb

theorem BSt.cells {w W : World} {u0 u1 : Value} {b : Nat} {l : List UInt8} (S : BSt w W #[u0, u1] b l) : W.cell? ⟨w.heap.size, 0, none⟩ = some u0 ∧ W.cell? ⟨w.heap.size, 1, none⟩ = some u1 := by
  constructor <;> simp [World.cell?, S.box]

theorem name_small64 {s : ByteArray} (h : nameP s = true) : s.size ≤ 64 := by
  unfold nameP madeP at h
  simp only [Bool.and_eq_true, decide_eq_true_eq] at h
  omega

theorem flow_small256 {s : ByteArray} (h : flowP s = true) : s.size ≤ 256 := by
  unfold flowP madeP at h
  simp only [Bool.and_eq_true, decide_eq_true_eq] at h
  omega

/-- The bytes of words. -/
def lenW (ws : List ByteArray) : Nat := (ws.map (fun s => s.size + 1)).sum

theorem joinTail_len (ws : List ByteArray) : (Lib.joinTail [32] (bytesW ws)).length = lenW ws := by
  induction ws with
  | nil => rfl
  | cons x t ih =>
    have e : Lib.joinTail [32] (bytesW (x :: t)) = [32] ++ (x.data.toList ++ Lib.joinTail [32] (bytesW t)) := by simp [Lib.joinTail, bytesW]
    rw [e, List.length_append, List.length_append, ih]
    simp [lenW]
    omega

theorem line_len (ws : List ByteArray) : (lineL [32] ws).length ≤ lenW ws := by
  unfold lineL
  cases ws with
  | nil => simp [bytesW, Lib.join_nil]
  | cons x t =>
    have e : bytesW (x :: t) = x.data.toList :: bytesW t := rfl
    rw [e, Lib.join_cons, List.length_append, joinTail_len]
    simp [lenW]

theorem itB_small {z : Int} (h0 : 0 ≤ z) (h1 : z ≤ 1000000) : (itB z).size ≤ 15 := by
  have h := (num_back h0 h1).1
  unfold numP madeP at h
  simp only [Bool.and_eq_true, decide_eq_true_eq] at h
  omega

theorem lenW_le {ws : List ByteArray} (h : ∀ s ∈ ws, s.size ≤ 256) : lenW ws ≤ 257 * ws.length := by
  induction ws with
  | nil => simp [lenW]
  | cons x t ih =>
    have := ih (fun s hs => h s (by simp [hs]))
    have hx := h x (by simp)
    have e : lenW (x :: t) = x.size + 1 + lenW t := by simp [lenW]
    rw [e, List.length_cons]
    omega

theorem words_small {n : Nd} (R : NdRight n) : ∀ s ∈ wordsW n, s.size ≤ 256 := by
  have hf := R.fits
  have hnm := R.named
  unfold namedP at hnm
  simp only [Bool.and_eq_true, Bool.or_eq_true, beq_iff_eq, bne_iff_ne] at hnm
  obtain ⟨⟨hn, ha⟩, ht⟩ := hnm
  have hdel : 0 ≤ n.delay ∧ n.delay ≤ 1000000 := by
    unfold fitsP at hf
    by_cases hd : (n.delay < 0 || n.delay > 1000000) = true
    · rw [if_pos hd] at hf; cases hf
    · simp at hd; exact ⟨hd.1, hd.2⟩
  have htr : n.kind = 1 → 0 ≤ n.tries ∧ n.tries ≤ 10 := by
    intro k1
    unfold fitsP at hf
    by_cases hd : (n.delay < 0 || n.delay > 1000000) = true
    · rw [if_pos hd] at hf; cases hf
    · rw [if_neg hd] at hf
      simp [k1] at hf
      omega
  have dw := itB_small hdel.1 hdel.2
  have lits : actB.size ≤ 256 ∧ timB.size ≤ 256 ∧ chiB.size ≤ 256 ∧ waiB.size ≤ 256 ∧ senB.size ≤ 256 ∧ triB.size ≤ 256 ∧ tmoB.size ≤ 256 ∧ aftB.size ≤ 256 := by decide
  obtain ⟨l1, l2, l3, l4, l5, l6, l7, l8⟩ := lits
  have nme : ∀ {s : ByteArray}, nameP s = true → s.size ≤ 256 := fun h => Nat.le_trans (name_small64 h) (by omega)
  intro s hs
  unfold wordsW at hs
  rw [List.mem_cons, List.mem_append] at hs
  rcases hs with rfl | hs | hs
  · exact nme hn
  · unfold kindW at hs
    by_cases k1 : n.kind = 1
    · have tw := itB_small (htr k1).1 (by have := (htr k1).2; omega)
      have harg : nameP n.arg = true := by rcases ha with h | h; · omega
                                           · exact h
      rw [if_pos k1] at hs
      simp only [List.cons_append, List.nil_append, List.mem_cons, List.mem_append] at hs
      rcases hs with rfl | rfl | hs | hs
      · exact l1
      · exact nme harg
      · split at hs
        · cases hs
        · simp only [List.mem_cons, List.not_mem_nil, or_false] at hs
          rcases hs with rfl | rfl
          · exact l6
          · omega
      · split at hs
        · cases hs
        · simp only [List.mem_cons, List.not_mem_nil, or_false] at hs
          rcases hs with rfl | rfl
          · exact l7
          · omega
    · rw [if_neg k1] at hs
      by_cases k2 : n.kind = 2
      · rw [if_pos k2] at hs
        simp only [List.mem_cons, List.not_mem_nil, or_false] at hs
        rcases hs with rfl | rfl
        · exact l2
        · omega
      · rw [if_neg k2] at hs
        have harg : nameP n.arg = true := by rcases ha with h | h; · exact absurd h k2
                                             · exact h
        by_cases k3 : n.kind = 3
        · rw [if_pos k3] at hs
          simp only [List.mem_cons, List.not_mem_nil, or_false] at hs
          rcases hs with rfl | rfl
          · exact l3
          · exact nme harg
        · rw [if_neg k3] at hs
          by_cases k4 : n.kind = 4
          · rw [if_pos k4] at hs
            simp only [List.mem_cons, List.not_mem_nil, or_false] at hs
            rcases hs with rfl | rfl
            · exact l4
            · exact nme harg
          · rw [if_neg k4] at hs
            by_cases k5 : n.kind = 5
            · rw [if_pos k5] at hs
              have hto : flowP n.to = true := by rcases ht with h | h; · exact absurd k5 h
                                                 · exact h
              simp only [List.mem_cons, List.not_mem_nil, or_false] at hs
              rcases hs with rfl | rfl | rfl
              · exact l5
              · exact flow_small256 hto
              · exact nme harg
            · rw [if_neg k5] at hs; cases hs
  · unfold aftW at hs
    split at hs
    · cases hs
    · rw [List.mem_cons] at hs
      rcases hs with rfl | hs
      · exact l8
      · exact nme (R.after s hs)

theorem words_few {n : Nd} (h : n.after.length ≤ 32) : (wordsW n).length ≤ 40 := by
  have h1 : (kindW n).length ≤ 6 := by
    unfold kindW
    repeat' split
    all_goals simp
  have h2 : (aftW n.after).length ≤ 33 := by
    unfold aftW
    split
    · simp
    · simp; omega
  unfold wordsW
  rw [List.length_cons, List.length_append]
  omega

/-- A node's line is short. -/
theorem node_line {n : Nd} (R : NdRight n) (h : n.after.length ≤ 32) : (lineL [32] (wordsW n)).length ≤ 10280 := by
  have h1 := line_len (wordsW n)
  have h2 := lenW_le (words_small R)
  have h3 := words_few h
  omega

/-- The text of the first nodes is not long. -/
theorem text_len {nm : ByteArray} (hnm : nameP nm = true) : ∀ (ns : List Nd), (∀ n ∈ ns, NdRight n ∧ n.after.length ≤ 32) → (textL [32] (linesW nm ns)).length ≤ 100 + 10281 * ns.length := by
  intro ns h
  have h0 : ∀ (ns : List Nd), (∀ n ∈ ns, NdRight n ∧ n.after.length ≤ 32) → (textL [32] (ns.map wordsW)).length ≤ 10281 * ns.length := by
    intro ns
    induction ns with
    | nil => intro _; simp [textL]
    | cons n t ih =>
      intro h
      have h1 := ih (fun x hx => h x (by simp [hx]))
      have h2 := node_line (h n (by simp)).1 (h n (by simp)).2
      rw [List.map_cons, textL_cons, List.length_append, List.length_cons, List.length_cons]
      omega
  have h1 := h0 ns h
  have h2 := line_len [wfB, nm]
  have h3 := name_small64 hnm
  have h4 : lenW [wfB, nm] = wfB.size + 1 + (nm.size + 1) := by simp [lenW]
  have h5 : wfB.size = 8 := rfl
  unfold linesW
  rw [textL_cons, List.length_append, List.length_cons]
  omega

theorem textL_snoc (sep : List UInt8) (ls : List (List ByteArray)) (ws : List ByteArray) : textL sep (ls ++ [ws]) = textL sep ls ++ (lineL sep ws ++ [10]) := by simp [textL]

theorem bytes_add (x y : ByteArray) : (x ++ y).data.toList = x.data.toList ++ y.data.toList := by
  rw [ByteArray.data_append]
  simp

theorem add_small {L : List UInt8} {J : ByteArray} (h : L.length ≤ 400000) (hJ : J.size ≤ 10280) : L.length + (J ++ ⟨#[10]⟩).size ≤ 100000000 := by
  rw [ByteArray.size_append]
  have : (⟨#[10]⟩ : ByteArray).size = 1 := rfl
  omega

set_option maxRecDepth 100000 in
set_option maxHeartbeats 4000000 in
theorem text_any (w : World) (name : ByteArray) (a : Option Addr) (n c : Nat) (ns : List Nd) (hN : NodesAt w a ns) (hl : ns.length = n) (T10 : Pow10 w) :
    Calls Tryd.prog 12 #[.agg #[.string name, .slice a n c]] w fun e w' => e = .returned (.string (textP name ns)) ∧ Kept (fun _ => False) w w' := by
  subst hl
  have K0 : Kept (fun _ => False) w (w.alloc (.cells #[.string name, .slice a ns.length c] 26)) := Kept.alloc _ _ _
  have hck := check_any (w.alloc (.cells #[.string name, .slice a ns.length c] 26)) name a ns.length c ns (hN.kept K0 (fun _ _ h => h)) rfl
  by_cases hc : (checkP name ns).2 = 0
  · obtain ⟨hnm, h32, h1, hns⟩ := check_right hc
    have hlen : ∀ k, k ≤ ns.length → (textL [32] (linesW name (ns.take k))).length ≤ 400000 := fun k hk => by
      have := text_len hnm (ns.take k) (fun x hx => hns x (List.mem_of_mem_take hx))
      rw [List.length_take] at this
      omega
    have hTP : textP name ns = mkB (textL [32] (linesW name ns)) := if_pos hc
    rw [hc] at hck
    generalize (checkP name ns).1 = y at *
    have HTP : Hid (textP name ns = mkB (textL [32] (linesW name ns))) := hTP
    have HLen : Hid (∀ k, k ≤ ns.length → (textL [32] (linesW name (ns.take k))).length ≤ 400000) := hlen
    have HNs : Hid (∀ n ∈ ns, NdRight n ∧ n.after.length ≤ 32) := hns
    have HN : Hid (NodesAt w a ns) := hN
    have HP : Hid (Pow10 w) := T10
    have hn64 := name_small64 hnm
    have hfirst : ((⟨#[119, 111, 114, 107, 102, 108, 111, 119, 32]⟩ : ByteArray) ++ name ++ ⟨#[10]⟩).data.toList = textL [32] (linesW name (ns.take 0)) := by
      rw [bytes_add, bytes_add]
      simp [textL, linesW, lineL, bytesW, Lib.join, List.intercalate, wfB]
    have HF : Hid (((⟨#[119, 111, 114, 107, 102, 108, 111, 119, 32]⟩ : ByteArray) ++ name ++ ⟨#[10]⟩).data.toList = textL [32] (linesW name (ns.take 0))) := hfirst
    have hsz0 : ((⟨#[119, 111, 114, 107, 102, 108, 111, 119, 32]⟩ : ByteArray) ++ name ++ ⟨#[10]⟩).size ≤ 100 := by
      rw [ByteArray.size_append, ByteArray.size_append]
      show 9 + name.size + 1 ≤ 100
      omega
    have HS0 : Hid (((⟨#[119, 111, 114, 107, 102, 108, 111, 119, 32]⟩ : ByteArray) ++ name ++ ⟨#[10]⟩).size ≤ 100) := hsz0
    clear hc hTP hlen hns hN T10 hfirst hsz0 hnm K0 h1
    go_enter Tryd.func12, Tryd.ntmps12
    go_wp2_with (first
      | (go_at_call 9; refine hck.mono ?_; rintro e w1 ⟨rfl, K1⟩; clear hck; have S : Hid (BSt w (w1.alloc (.cells #[.pointer none, .slice none 0 0] 56)) #[.string name, .slice a ns.length c] w1.heap.size []) := BSt.new K1; obtain ⟨d0, d1⟩ := S.out.cells)
      | (go_at_call 27; refine (write_any S.out _ (by have := HS0.out; simp only [List.length_nil]; omega)).mono ?_; rintro e w2 ⟨rfl, S2⟩; rw [List.nil_append, HF.out] at S2; clear S d0 d1; have S : Hid (BSt w w2 #[.string name, .slice a ns.length c] w1.heap.size (textL [32] (linesW name (ns.take 0)))) := S2; clear S2; obtain ⟨d0, d1⟩ := S.out.cells)
      | fail)
    go_loopw [23] (fun q wr => ∃ (k : Nat), k ≤ ns.length ∧ q = .int .i64 k ∧ BSt w wr #[.string name, .slice a ns.length c] w1.heap.size (textL [32] (linesW name (ns.take k)))) (fun q _ => ns.length - (intOf q).toNat)
    case atStart => exact ⟨0, Nat.zero_le _, rfl, S.out⟩
    case round =>
      obtain ⟨k, hk, rfl, S1⟩ := hrel
      clear S d0 d1
      by_cases hlt : k < ns.length
      · obtain ⟨b, o, av, cv, hae, hT, c0, c1, c2, c3, c4, c5, c6⟩ := (HN.out.kept S1.kept (fun _ _ h => h)).at hlt
        have R := HNs.out _ (List.getElem_mem hlt)
        have hok := HN.out.1 _ (List.getElem_mem hlt)
        have hlen := HLen.out k hk
        have hnx : textL [32] (linesW name (ns.take (k + 1))) = textL [32] (linesW name (ns.take k)) ++ (lineL [32] (wordsW ns[k]) ++ [10]) := by
          rw [← textL_snoc, take_snoc hlt]
          unfold linesW
          rw [List.map_append]
          rfl
        have hln := node_line R.1 R.2
        have hfw := words_few R.2
        have e0 : (k : Int) < (ns.length : Int) := by omega
        have hW := written_any (wr.alloc (.cells #[.string (ns[k]).name, .int .i64 (ns[k]).kind, .string (ns[k]).arg, .string (ns[k]).to, .int .i64 (ns[k]).delay, .int .i64 (ns[k]).tries, .slice av (ns[k]).after.length cv] 44)) ns[k] av cv (hT.kept (Kept.alloc (fun _ => False) _ _) (fun _ _ h => h)) hok.few (HP.out.kept (S1.kept.and (Kept.alloc _ _ _))) hok.delay hok.tries R.1
        have S : Hid (BSt w wr #[.string name, .slice a ns.length c] w1.heap.size (textL [32] (linesW name (ns.take k)))) := S1
        have HX : Hid (textL [32] (linesW name (ns.take (k + 1))) = textL [32] (linesW name (ns.take k)) ++ (lineL [32] (wordsW ns[k]) ++ [10])) := hnx
        clear S1 hnx hok R hT
        generalize ns[k] = x at *
        generalize hws : wordsW x = ws at *
        have hne : ws ≠ [] := by rw [← hws]; simp [wordsW]
        have hsz : (mkB (lineL [32] ws)).size ≤ 10280 := by rw [mkB_size]; exact hln
        have HL : Hid ((textL [32] (linesW name (ns.take k))).length ≤ 400000) := hlen
        have HLn : Hid ((lineL [32] ws).length ≤ 10280) := hln
        have HFw : Hid (ws.length ≤ 40) := hfw
        have HNe : Hid (ws ≠ []) := hne
        have hjm := mkB_list (lineL [32] ws)
        clear hws hne hlen hln hfw
        generalize hL : textL [32] (linesW name (ns.take k)) = L at *
        clear hL
        subst hae
        go_wp2_with (first
          | (go_at_call 29; refine hW.mono ?_; rintro e w3 ⟨aw, cw, rfl, ow, Kw⟩; have S3 : Hid (BSt w w3 #[.string name, .slice (some ⟨b, o, none⟩) ns.length c] w1.heap.size L) := S.out.call ((Kept.alloc _ _ _).and Kw); have hJ := join_any w3 ws aw cw _ HNe.out ow (Nat.le_trans HFw.out (by omega)) (Nat.le_trans HLn.out (by omega)); clear hW ow Kw S; generalize mkB (lineL [32] ws) = J at *; have HJm : Hid (J.data.toList = lineL [32] ws) := hjm; have HJs : Hid (J.size ≤ 10280) := hsz; clear hjm)
          | (go_at_call 28; refine hJ.mono ?_; rintro e w4 ⟨rfl, K4⟩; have S4 : Hid (BSt w w4 #[.string name, .slice (some ⟨b, o, none⟩) ns.length c] w1.heap.size L) := S3.out.call K4; clear hJ K4 S3)
          | (go_at_call 27; have hS2 := write_any S4.out (J ++ ⟨#[10]⟩) (add_small HL.out HJs.out); refine hS2.mono ?_; clear hS2; rintro e w5 ⟨rfl, S5⟩; rw [bytes_add, HJm.out] at S5; clear S4)
          | fail)
        go_roundw
        case rel =>
          refine ⟨k + 1, by omega, by go_num, ?_⟩
          rw [HX.out]
          exact S5
        case measure => simp [intOf]; omega
      · have hke : k = ns.length := by omega
        subst hke
        have e0 : ¬ (ns.length : Int) < (ns.length : Int) := by omega
        have S : Hid (BSt w wr #[.string name, .slice a ns.length c] w1.heap.size (textL [32] (linesW name (ns.take ns.length)))) := S1
        clear S1
        go_wp2_with (first
          | (go_at_call 30; refine (string_any S.out).mono ?_; rintro e w5 ⟨rfl, K5⟩)
          | fail)
        go_ret
        refine ⟨?_, K5⟩
        rw [HTP.out]
        rfl
  · have e1 : ((checkP name ns).2 != 0) = true := by simp [hc]
    have HT : Hid (textP name ns = ⟨#[]⟩) := if_neg hc
    generalize (checkP name ns).2 = z at *
    generalize (checkP name ns).1 = y at *
    clear hc hN T10
    go_enter Tryd.func12, Tryd.ntmps12
    go_wp2_with (first
      | (go_at_call 9; refine hck.mono ?_; rintro e w1 ⟨rfl, K1⟩; clear hck)
      | fail)
    go_ret
    exact ⟨by rw [HT.out]; rfl, K0.and K1⟩

end Go.Proofs.YtlholgpenpfpbaaDoor

/-
  A text with each blank doubled, and a remark and an empty line behind some of its lines, says the same. Nothing here speaks of a program.
-/
namespace Go.Proofs.YtlholgpenpfpbaaDoor
open Go.RowKit

/-- A remark's text: without line ends, cut. -/
def plainP (s : ByteArray) : List UInt8 := (s.data.toList.take 40).filter (fun b => b != 10)

def wideK (rem : Nat → ByteArray) (m : Nat) : List UInt8 → Nat → List UInt8
  | [], _ => []
  | b :: t, k => b :: ((if b = 32 then [32] else []) ++ (if b = 10 ∧ k < m then [32, 32, 35] ++ (plainP (rem k) ++ ([10, 32, 10] ++ wideK rem m t (k + 1))) else wideK rem m t k))

theorem wideK_blank (rem : Nat → ByteArray) (m : Nat) (t : List UInt8) (k : Nat) : wideK rem m (32 :: t) k = [32, 32] ++ wideK rem m t k := by
  rw [wideK, if_pos rfl, if_neg (by simp)]
  rfl

theorem wideK_end (rem : Nat → ByteArray) {m : Nat} (t : List UInt8) {k : Nat} (h : k < m) : wideK rem m (10 :: t) k = [10] ++ ([32, 32, 35] ++ (plainP (rem k) ++ ([10, 32, 10] ++ wideK rem m t (k + 1)))) := by
  rw [wideK, if_neg (by simp), if_pos ⟨rfl, h⟩]
  rfl

theorem wideK_other (rem : Nat → ByteArray) (m : Nat) (t : List UInt8) (k : Nat) {b : UInt8} (h1 : b ≠ 32) (h2 : ¬ (b = 10 ∧ k < m)) : wideK rem m (b :: t) k = [b] ++ wideK rem m t k := by
  rw [wideK, if_neg h1, if_neg h2]
  rfl

/-- Blanks doubled. -/
def dbl (l : List UInt8) : List UInt8 := l.flatMap (fun b => if b = 32 then [32, 32] else [b])

theorem dbl_append (a b : List UInt8) : dbl (a ++ b) = dbl a ++ dbl b := by simp [dbl]
theorem dbl_word {w : List UInt8} (h : ∀ b ∈ w, b ≠ 32) : dbl w = w := by
  induction w with
  | nil => rfl
  | cons b t ih =>
    have h1 := h b (by simp)
    have h2 := ih (fun x hx => h x (by simp [hx]))
    unfold dbl at h2 ⊢
    rw [List.flatMap_cons, if_neg h1, h2]
    rfl

theorem dbl_tail : ∀ {ws : List (List UInt8)}, (∀ w ∈ ws, WordOk w) → dbl (Lib.joinTail [32] ws) = Lib.joinTail [32, 32] ws
  | [], _ => rfl
  | x :: ws, h => by
    have e1 : Lib.joinTail [32] (x :: ws) = [32] ++ (x ++ Lib.joinTail [32] ws) := by simp [Lib.joinTail]
    have e2 : Lib.joinTail [32, 32] (x :: ws) = [32, 32] ++ (x ++ Lib.joinTail [32, 32] ws) := by simp [Lib.joinTail]
    rw [e1, e2, dbl_append, dbl_append, dbl_tail (fun w hw => h w (by simp [hw])), dbl_word (fun b hb => ((h x (by simp)).2.1 b hb).1)]
    rfl

theorem dbl_line {ws : List ByteArray} (h : ∀ w ∈ bytesW ws, WordOk w) : dbl (lineL [32] ws) = lineL [32, 32] ws := by
  unfold lineL
  cases hw : bytesW ws with
  | nil => rfl
  | cons x t =>
    rw [hw] at h
    rw [Lib.join_cons, Lib.join_cons, dbl_append, dbl_word (fun b hb => ((h x (by simp)).2.1 b hb).1), dbl_tail (fun w hw => h w (by simp [hw]))]

theorem wideK_line (rem : Nat → ByteArray) (m : Nat) (r : List UInt8) (k : Nat) : ∀ (l : List UInt8), (∀ b ∈ l, b ≠ 10) → wideK rem m (l ++ r) k = dbl l ++ wideK rem m r k
  | [], _ => rfl
  | b :: l, h => by
    have ih := wideK_line rem m r k l (fun x hx => h x (by simp [hx]))
    have hb := h b (by simp)
    by_cases h32 : b = 32
    · subst h32
      rw [List.cons_append, wideK_blank, ih]
      simp [dbl]
    · rw [List.cons_append, wideK_other rem m _ k h32 (fun hh => hb hh.1), ih]
      simp [dbl, h32]

theorem plain_noNl (s : ByteArray) : ∀ b ∈ plainP s, b ≠ 10 := by
  intro b hb
  unfold plainP at hb
  have := (List.mem_filter.1 hb).2
  simpa using this

theorem blank_silent : rSilent (wordsP (mkB [32]), false) = true := by rw [wordsP_split]; rfl
theorem blanks_silent : rSilent (wordsP (mkB [32, 32]), false) = true := by rw [wordsP_split]; rfl
theorem remark_silent (p : List UInt8) : rSilent (wordsP (mkB ([32, 32, 35] ++ p)), false) = true := by
  rw [wordsP_split]
  obtain ⟨w, r, e⟩ := splitW_first p 35 []
  have e2 : splitW ([32, 32, 35] ++ p) [] = splitW p [35] := by
    show splitW (32 :: 32 :: 35 :: p) [] = _
    rw [splitW, if_pos rfl, if_pos rfl, splitW, if_pos rfl, if_pos rfl, splitW, if_neg (by decide)]
    rfl
  rw [e2, e, List.map_cons]
  unfold rSilent
  simp only [mkB_list, List.headD_cons]
  rfl

theorem wide_says (rem : Nat → ByteArray) (m : Nat) : ∀ (ls : List (List ByteArray)) (k : Nat), (∀ ws ∈ ls, LineOk ws) → saysL (linesP (mkB (wideK rem m (textL [32] ls) k))) = ls
  | [], k, _ => rfl
  | ws :: ls, k, h => by
    have hw := h ws (by simp)
    have hl := line_noNl (sep := [32]) (by simp) hw
    have hl2 := line_noNl (sep := [32, 32]) (by simp) hw
    have e := line_words (sep := [32, 32]) (by simp) (by simp) hw [] (by simp)
    rw [List.nil_append] at e
    rw [textL_cons, wideK_line rem m _ k _ hl, dbl_line hw.2]
    by_cases hk : k < m
    · rw [wideK_end rem _ hk]
      have hp := plain_noNl (rem k)
      have hr : ∀ b ∈ [32, 32, 35] ++ plainP (rem k), b ≠ (10 : UInt8) := by
        intro b hb
        rcases List.mem_append.1 hb with hb | hb
        · simp at hb; rcases hb with rfl | rfl <;> decide
        · exact hp b hb
      show saysL (linesP (mkB (lineL [32, 32] ws ++ 10 :: ([32, 32, 35] ++ (plainP (rem k) ++ ([10, 32, 10] ++ wideK rem m (textL [32] ls) (k + 1))))))) = ws :: ls
      rw [linesP_line _ _ hl2, saysL_says (by rw [e]; exact line_loud hw), e]
      rw [← List.append_assoc]
      show ws :: saysL (linesP (mkB (([32, 32, 35] ++ plainP (rem k)) ++ 10 :: ([32] ++ 10 :: wideK rem m (textL [32] ls) (k + 1))))) = ws :: ls
      rw [linesP_line _ _ hr, saysL_silent (remark_silent _), linesP_line _ _ (by simp), saysL_silent blank_silent, wide_says rem m ls (k + 1) (fun x hx => h x (by simp [hx]))]
    · rw [wideK_other rem m _ k (by decide) (fun hh => hk hh.2)]
      show saysL (linesP (mkB (lineL [32, 32] ws ++ 10 :: wideK rem m (textL [32] ls) k))) = ws :: ls
      rw [linesP_line _ _ hl2, saysL_says (by rw [e]; exact line_loud hw), e, wide_says rem m ls k (fun x hx => h x (by simp [hx]))]

theorem wide_parse {nm : ByteArray} {ns : List Nd} (hc : (checkP nm ns).2 = 0) (rem : Nat → ByteArray) (m : Nat) (hsz : (mkB ([32, 32, 10] ++ wideK rem m (textP nm ns).data.toList 0)).size ≤ 16384) : parseP (mkB ([32, 32, 10] ++ wideK rem m (textP nm ns).data.toList 0)) = (some (nm, ns), 0, 0) := by
  refine says_parse hc hsz ?_
  have e : (textP nm ns).data.toList = textL [32] (linesW nm ns) := by unfold textP; rw [if_pos hc, mkB_list]
  have e2 : ∀ X : List UInt8, [32, 32, 10] ++ X = [32, 32] ++ 10 :: X := fun X => rfl
  rw [e, e2, linesP_line _ _ (by simp), saysL_silent blanks_silent]
  exact wide_says rem m (linesW nm ns) 0 (lines_ok hc)

/-- How far the text has been gone through. -/
structure WdSt (rem : Nat → ByteArray) (m : Nat) (s : ByteArray) (i k : Nat) (acc : ByteArray) : Prop where
  is : acc.data.toList ++ wideK rem m (s.data.toList.drop i) k = wideK rem m s.data.toList 0
  few : acc.size ≤ 2 * i + 50 * k
  le : k ≤ m

theorem WdSt.zero (rem : Nat → ByteArray) (m : Nat) (s : ByteArray) : WdSt rem m s 0 0 ⟨#[]⟩ := ⟨rfl, Nat.zero_le _, Nat.zero_le _⟩

theorem drop_byte {s : ByteArray} {i : Nat} (h : i < s.size) : s.data.toList.drop i = s.get! i :: s.data.toList.drop (i + 1) := by
  rw [List.drop_eq_getElem_cons (by simpa using h)]
  have := get_list h
  rw [List.getElem?_eq_getElem (by simpa using h)] at this
  rw [Option.some.inj this]

theorem one_byte {s : ByteArray} {i : Nat} (h : i < s.size) : (s.extract i (i + 1)).data.toList = [s.get! i] := by
  rw [extract_list, drop_byte h, show i + 1 - i = 1 by omega]
  rfl

theorem add_list (x y : ByteArray) : (x ++ y).data.toList = x.data.toList ++ y.data.toList := by
  rw [ByteArray.data_append]
  simp

theorem plain_len (s : ByteArray) : (plainP s).length ≤ 40 := by
  unfold plainP
  have h1 := List.length_filter_le (fun b => b != 10) (s.data.toList.take 40)
  rw [List.length_take] at h1
  omega

theorem WdSt.blank {rem : Nat → ByteArray} {m : Nat} {s : ByteArray} {i k : Nat} {acc : ByteArray} (S : WdSt rem m s i k acc) (hi : i < s.size) (hb : s.get! i = 32) : WdSt rem m s (i + 1) k (acc ++ s.extract i (i + 1) ++ ⟨#[32]⟩) := by
  refine ⟨?_, ?_, S.le⟩
  · have h := S.is
    rw [drop_byte hi, hb, wideK_blank] at h
    rw [add_list, add_list, one_byte hi, hb, List.append_assoc, List.append_assoc]
    exact h
  · have h := S.few
    rw [ByteArray.size_append, ByteArray.size_append, ByteArray.size_extract]
    have : (⟨#[32]⟩ : ByteArray).size = 1 := rfl
    omega

theorem WdSt.other {rem : Nat → ByteArray} {m : Nat} {s : ByteArray} {i k : Nat} {acc : ByteArray} (S : WdSt rem m s i k acc) (hi : i < s.size) (h1 : s.get! i ≠ 32) (h2 : ¬ (s.get! i = 10 ∧ k < m)) : WdSt rem m s (i + 1) k (acc ++ s.extract i (i + 1)) := by
  refine ⟨?_, ?_, S.le⟩
  · have h := S.is
    rw [drop_byte hi, wideK_other rem m _ k h1 h2] at h
    rw [add_list, one_byte hi, List.append_assoc]
    exact h
  · have h := S.few
    rw [ByteArray.size_append, ByteArray.size_extract]
    omega

theorem WdSt.end {rem : Nat → ByteArray} {m : Nat} {s : ByteArray} {i k : Nat} {acc : ByteArray} (S : WdSt rem m s i k acc) (hi : i < s.size) (hb : s.get! i = 10) (hk : k < m) : WdSt rem m s (i + 1) (k + 1) (acc ++ s.extract i (i + 1) ++ ⟨#[32, 32, 35]⟩ ++ mkB (plainP (rem k)) ++ ⟨#[10, 32, 10]⟩) := by
  refine ⟨?_, ?_, hk⟩
  · have h := S.is
    rw [drop_byte hi, hb, wideK_end rem _ hk] at h
    rw [add_list, add_list, add_list, add_list, one_byte hi, hb, mkB_list, List.append_assoc, List.append_assoc, List.append_assoc, List.append_assoc]
    exact h
  · have h := S.few
    have h4 := plain_len (rem k)
    rw [ByteArray.size_append, ByteArray.size_append, ByteArray.size_append, ByteArray.size_append, ByteArray.size_extract, mkB_size]
    have : (⟨#[32, 32, 35]⟩ : ByteArray).size = 3 := rfl
    have : (⟨#[10, 32, 10]⟩ : ByteArray).size = 3 := rfl
    omega

theorem WdSt.done {rem : Nat → ByteArray} {m : Nat} {s : ByteArray} {i k : Nat} {acc : ByteArray} (S : WdSt rem m s i k acc) (hi : s.size ≤ i) : (⟨#[32, 32, 10]⟩ : ByteArray) ++ acc = mkB ([32, 32, 10] ++ wideK rem m s.data.toList 0) := by
  have h := S.is
  rw [List.drop_of_length_le (by simpa using hi)] at h
  have h2 : acc.data.toList = wideK rem m s.data.toList 0 := by rw [← h]; simp [wideK]
  rw [← mkB_data ((⟨#[32, 32, 10]⟩ : ByteArray) ++ acc), add_list, h2]

end Go.Proofs.YtlholgpenpfpbaaDoor

/-
  The document's words and Lines.
-/
namespace Go.Proofs.YtlholgpenpfpbaaDoor
open Go.RowKit

theorem get_at {s : ByteArray} {i : Nat} (h : i < s.size) : s.get! i = s[i] := by
  obtain ⟨d⟩ := s
  exact getElem!_pos d i h

theorem byte_is {s : ByteArray} {i : Nat} (h : i < s.size) (c : UInt8) : (((s[i]).toNat : Int) == (c.toNat : Int)) = decide (s.get! i = c) := by
  rw [get_at h]
  by_cases e : s[i] = c
  · rw [e]; simp
  · have : ¬ ((s[i]).toNat : Int) = (c.toNat : Int) := fun h2 => e (UInt8.toNat_inj.1 (by omega))
    simp [e, this]

theorem byte_not {s : ByteArray} {i : Nat} (h : i < s.size) (c : UInt8) : (((s[i]).toNat : Int) != (c.toNat : Int)) = !decide (s.get! i = c) := by
  have := byte_is h c
  rw [bne, this]

/-- A word more is put behind the others. -/
theorem words_push {s : ByteArray} {L : List ByteArray} {i k : Nat} (h : L ++ wordsFrom s i = wordsP s) (hik : i < k) (hk : k ≤ s.size) (hw : ∀ j, i ≤ j → j < k → s.get! j ≠ 32) (he : k = s.size ∨ s.get! k = 32) : (L ++ [s.extract i k]) ++ wordsFrom s k = wordsP s := by
  rw [← h, wordsFrom_word hik hk hw he, List.append_assoc]
  rfl

set_option maxRecDepth 100000 in
set_option maxHeartbeats 4000000 in
theorem refWords_any (w : World) (s : ByteArray) (hs : s.size ≤ 100000) :
    Calls Tryd.prog 16 #[.string s] w fun e w' => ∃ a c, e = .returned (.slice a (wordsP s).length c) ∧ w'.ownsRow w.heap.size 9 1 (.slice a (wordsP s).length c) (wordsP s).length (strsV (wordsP s)) ∧ Kept (fun _ => False) w w' := by
  obtain ⟨j0, hj0, hy0, hy1, hy2⟩ := info_parts Tryd.info9
  have hwl := (words_ok s).1
  go_enter Tryd.func16, Tryd.ntmps16
  go_wp2_with fail
  go_loopw [4, 3] (fun q v wr => ∃ (i : Nat) (L : List ByteArray) (a : Option Addr) (c : Nat), i ≤ s.size ∧ q = .int .i64 i ∧ v = .slice a L.length c ∧ L ++ wordsFrom s i = wordsP s ∧ wr.ownsRow w.heap.size 9 1 (.slice a L.length c) L.length (strsV L) ∧ Kept (fun j => w.heap.size ≤ j) w wr) (fun q _ _ => s.size - (intOf q).toNat)
  case atStart => exact ⟨0, [], none, 0, Nat.zero_le _, rfl, rfl, by rw [words_from]; rfl, World.ownsRow_nil _ _ _ _, Kept.refl _ _⟩
  case round =>
    obtain ⟨i, L, a, c, hi, rfl, rfl, hL, O, K⟩ := hrel
    have HL : Hid (L ++ wordsFrom s i = wordsP s) := hL
    have HO : Hid (wr.ownsRow w.heap.size 9 1 (.slice a L.length c) L.length (strsV L)) := O
    have hLl : L.length ≤ 100000 := by have := congrArg List.length hL; rw [List.length_append] at this; omega
    clear hL O
    by_cases hlt : i < s.size
    · have e0 : (i : Int) < (s.size : Int) := by omega
      have hb := byte_is hlt 32
      have hb' : (((s[i]).toNat : Int) == 32) = decide (s.get! i = 32) := hb
      clear hb
      by_cases h32 : s.get! i = 32
      · simp only [h32, decide_true] at hb'
        have HX : Hid (L ++ wordsFrom s (i + 1) = wordsP s) := by show _ = _; rw [← wordsFrom_blank hlt h32]; exact HL.out
        generalize hm : L.length = m at *
        clear h32
        go_wp2_with fail
        go_roundw
        case rel => exact ⟨i + 1, L, a, c, by omega, by go_num, by rw [hm], HX.out, by rw [hm]; exact HO.out, K⟩
        case measure => simp [intOf]; omega
      · simp only [h32, decide_false] at hb'
        have H32 : Hid (s.get! i ≠ 32) := h32
        generalize hm : L.length = m at *
        obtain ⟨wo, hwo⟩ : ∃ wo, wo = wr := ⟨_, rfl⟩
        subst hwo
        clear h32
        go_wp2_with fail
        go_loopw [5] (fun q wr => ∃ (k : Nat), i ≤ k ∧ k ≤ s.size ∧ q = .int .i64 k ∧ (∀ j, i ≤ j → j < k → s.get! j ≠ 32) ∧ wr = wo) (fun q _ => s.size - (intOf q).toNat)
        case atStart => exact ⟨i, Nat.le_refl _, by omega, rfl, fun j h1 h2 => by omega, rfl⟩
        case round =>
          obtain ⟨k, hik, hk, rfl, hnb, hwq⟩ := hrel
          subst hwq
          have HNb : Hid (∀ j, i ≤ j → j < k → s.get! j ≠ 32) := hnb
          clear hnb hb'
          have fin : k = s.size ∨ s.get! k = 32 → i < k := fun h => by
            by_cases e : i = k
            · subst e
              rcases h with h | h
              · omega
              · exact absurd h H32.out
            · omega
          have HFin : Hid (k = s.size ∨ s.get! k = 32 → i < k) := fin
          have HC : Hid (∀ u ∈ [Value.string (s.extract i k)], u.oneCell' = true) := strsV_one [s.extract i k]
          have hzz := K.size
          clear fin
          by_cases hlk : k < s.size
          · have e1 : (k : Int) < (s.size : Int) := by omega
            have hn' : (((s[k]).toNat : Int) != 32) = !decide (s.get! k = 32) := byte_not hlk 32
            by_cases h32 : s.get! k = 32
            · simp only [h32, decide_true, Bool.not_true] at hn'
              have HX : Hid ((L ++ [s.extract i k]) ++ wordsFrom s k = wordsP s) := words_push HL.out (HFin.out (.inr h32)) hk HNb.out (.inr h32)
              have hik2 := HFin.out (.inr h32)
              have e2 : (i : Int) ≤ (k : Int) := by omega
              have e3 : (k : Int) ≤ (s.size : Int) := by omega
              clear h32
              go_wp2_with (first
                | (at_builtin; refine wpList_append_src _ rfl _ _ 22 rfl w.heap.size 9 j0 _ 1 16 Tryd.underlying22 hj0 hy0 hy1 hy2 rfl (by decide) (.slice a m c) m _ rfl (HO.out.alloc _) _ rfl 1 _ (.inl ⟨_, 1, rfl, rfl, World.news_of_block (heap_alloc_new _ _)⟩) HC.out (by unfold maxLen; omega) (by omega) (by simp; omega) ?_; intro a3 cap3 w7 ho3 hg3 _ hl3)
                | fail)
              have KG : Kept (fun g => w.heap.size ≤ g) (wr.alloc (.cells #[.string (s.extract i k)] 9)) w7 := Kept.grown hg3 (fun g e => (HO.out.lt g e).1)
              go_roundw
              case rel =>
                refine ⟨k, L ++ [s.extract i k], a3, cap3, hk, rfl, by simp [hm], HX.out, ?_, (K.and (Kept.alloc _ _ _)).and KG⟩
                rw [List.length_append, List.length_singleton, hm, show strsV (L ++ [s.extract i k]) = strsV L ++ [.string (s.extract i k)] by unfold strsV; simp]
                exact ho3
              case measure => simp [intOf]; omega
            · simp only [h32, decide_false, Bool.not_false] at hn'
              have HX : Hid (∀ j, i ≤ j → j < k + 1 → s.get! j ≠ 32) := fun j h1 h2 => by
                by_cases e : j = k
                · subst e; exact h32
                · exact HNb.out j h1 (by omega)
              clear h32
              go_wp2_with fail
              go_roundw
              case rel => exact ⟨k + 1, by omega, by omega, by go_num, HX.out, trivial⟩
              case measure => simp [intOf]; omega
          · obtain rfl : k = s.size := by omega
            have HX : Hid ((L ++ [s.extract i s.size]) ++ wordsFrom s s.size = wordsP s) := words_push HL.out hlt (Nat.le_refl _) HNb.out (.inl rfl)
            have e1 : ¬ (s.size : Int) < (s.size : Int) := by omega
            have e2 : (i : Int) ≤ (s.size : Int) := by omega
            have e3 : (s.size : Int) ≤ (s.size : Int) := by omega
            go_wp2_with (first
              | (at_builtin; refine wpList_append_src _ rfl _ _ 22 rfl w.heap.size 9 j0 _ 1 16 Tryd.underlying22 hj0 hy0 hy1 hy2 rfl (by decide) (.slice a m c) m _ rfl (HO.out.alloc _) _ rfl 1 _ (.inl ⟨_, 1, rfl, rfl, World.news_of_block (heap_alloc_new _ _)⟩) HC.out (by unfold maxLen; omega) (by omega) (by simp; omega) ?_; intro a3 cap3 w7 ho3 hg3 _ hl3)
              | fail)
            have KG : Kept (fun g => w.heap.size ≤ g) (wr.alloc (.cells #[.string (s.extract i s.size)] 9)) w7 := Kept.grown hg3 (fun g e => (HO.out.lt g e).1)
            go_roundw
            case rel =>
              refine ⟨s.size, L ++ [s.extract i s.size], a3, cap3, Nat.le_refl _, rfl, by simp [hm], HX.out, ?_, (K.and (Kept.alloc _ _ _)).and KG⟩
              rw [List.length_append, List.length_singleton, hm, show strsV (L ++ [s.extract i s.size]) = strsV L ++ [.string (s.extract i s.size)] by unfold strsV; simp]
              exact ho3
            case measure => simp [intOf]; omega
    · obtain rfl : i = s.size := by omega
      have hL := HL.out
      rw [wordsFrom_end s (Nat.le_refl _), List.append_nil] at hL
      have HLe : Hid (L = wordsP s) := hL
      have e0 : ¬ (s.size : Int) < (s.size : Int) := by omega
      clear hL
      generalize hm : L.length = m at *
      go_wp2_with fail
      go_ret
      subst hm
      have e := HLe.out
      subst e
      exact ⟨a, c, rfl, HO.out, (Kept.refl (fun _ => False) w).trans K (fun g h => .inr h)⟩

end Go.Proofs.YtlholgpenpfpbaaDoor

/-
  The law's plain: a remark's text.
-/
namespace Go.Proofs.YtlholgpenpfpbaaDoor
open Go.RowKit

theorem plain_take {s : ByteArray} {i : Nat} (hi : i < s.size) : s.data.toList.take (i + 1) = s.data.toList.take i ++ [s.get! i] := by
  rw [List.take_add_one, get_list hi]
  rfl

theorem plain_end {s : ByteArray} {i : Nat} (h : ¬ i < s.size ∨ ¬ i < 40) (hi : i ≤ 40) : (s.data.toList.take i).filter (fun b => b != 10) = plainP s := by
  unfold plainP
  have hl : s.data.toList.length = s.size := by simp
  rcases h with h | h
  · rw [List.take_of_length_le (by omega), List.take_of_length_le (by omega)]
  · rw [show i = 40 by omega]

theorem list_mk {x : ByteArray} {l : List UInt8} (h : x.data.toList = l) : x = mkB l := by rw [← h, mkB_data]

set_option maxRecDepth 100000 in
set_option maxHeartbeats 2000000 in
theorem plain_any (w : World) (s : ByteArray) (hs : s.size ≤ maxLen) :
    Calls Tryd.prog 13 #[.string s] w fun e w' => e = .returned (.string (mkB (plainP s))) ∧ w' = w := by
  have hM : s.size ≤ 9223372036854775807 := Nat.le_trans hs (by decide)
  clear hs
  go_enter Tryd.func13, Tryd.ntmps13
  go_wp2_with fail
  go_loopw [3, 4] (fun p q wr => ∃ (i : Nat) (acc : ByteArray), i ≤ 40 ∧ q = .int .i64 i ∧ p = .string acc ∧ acc.data.toList = (s.data.toList.take i).filter (fun b => b != 10) ∧ acc.size ≤ i ∧ wr = w) (fun _ q _ => 41 - (intOf q).toNat)
  case atStart => exact ⟨0, ⟨#[]⟩, Nat.zero_le _, rfl, rfl, rfl, Nat.le_refl _, rfl⟩
  case round =>
    obtain ⟨i, acc, hi, rfl, rfl, hacc, hsz, hw⟩ := hrel
    subst hw
    have HA : Hid (acc.data.toList = (s.data.toList.take i).filter (fun b => b != 10)) := hacc
    clear hacc
    by_cases hlt : i < s.size
    · have e0 : (i : Int) < (s.size : Int) := by omega
      by_cases h40 : i < 40
      · have e1 : (i : Int) < 40 := by omega
        have hx : (s.extract i (i + 1)).size ≤ 1 := by rw [ByteArray.size_extract]; omega
        have HT := plain_take hlt
        have HO := one_byte hlt
        by_cases h10 : s.get! i = 10
        · have hb : (((s[i]).toNat : Int) != 10) = false := (byte_not hlt 10).trans (by rw [h10]; rfl)
          have HN : Hid (acc.data.toList = (s.data.toList.take (i + 1)).filter (fun b => b != 10)) := by
            show _ = _
            rw [HT, h10, List.filter_append, HA.out]
            simp
          clear HT HO h10
          go_wp2_with fail
          go_roundw
          case rel => exact ⟨i + 1, acc, by omega, by go_num, rfl, HN.out, by omega, trivial⟩
          case measure => simp [intOf]; omega
        · have hb : (((s[i]).toNat : Int) != 10) = true := (byte_not hlt 10).trans (by simp [h10])
          have HN : Hid ((acc ++ s.extract i (i + 1)).data.toList = (s.data.toList.take (i + 1)).filter (fun b => b != 10)) := by
            show _ = _
            rw [add_list, HO, HT, List.filter_append, HA.out]
            simp [h10]
          have HS : Hid ((acc ++ s.extract i (i + 1)).size ≤ i + 1) := by
            show _ ≤ _
            rw [ByteArray.size_append]
            omega
          clear HT HO h10
          go_wp2_with fail
          go_roundw
          case rel => exact ⟨i + 1, acc ++ s.extract i (i + 1), by omega, by go_num, rfl, HN.out, HS.out, trivial⟩
          case measure => simp [intOf]; omega
      · have e1 : ¬ (i : Int) < 40 := by omega
        have HE : Hid (acc = mkB (plainP s)) := list_mk (by rw [HA.out]; exact plain_end (.inr h40) hi)
        go_wp2_with fail
        go_ret
        rw [← HE.out]
        exact ⟨rfl, rfl⟩
    · have e0 : ¬ (i : Int) < (s.size : Int) := by omega
      have HE : Hid (acc = mkB (plainP s)) := list_mk (by rw [HA.out]; exact plain_end (.inl hlt) hi)
      go_wp2_with fail
      go_ret
      rw [← HE.out]
      exact ⟨rfl, rfl⟩

end Go.Proofs.YtlholgpenpfpbaaDoor

/-
  The law's own comparing: texts, nodes, definitions that are the same.
-/
namespace Go.Proofs.YtlholgpenpfpbaaDoor
open Go.RowKit

set_option maxRecDepth 100000 in
set_option maxHeartbeats 2000000 in
theorem texts_same (w : World) (a1 a2 : Option Addr) (c1 c2 : Nat) (l : List ByteArray) (h1 : TextsAt w (.slice a1 l.length c1) l) (h2 : TextsAt w (.slice a2 l.length c2) l) (hl : l.length ≤ 1000000) :
    Calls Tryd.prog 43 #[.slice a1 l.length c1, .slice a2 l.length c2] w fun e w' => e = .returned (.bool true) ∧ Kept (fun _ => False) w w' := by
  have H1 : Hid (TextsAt w (.slice a1 l.length c1) l) := h1
  have H2 : Hid (TextsAt w (.slice a2 l.length c2) l) := h2
  clear h1 h2
  have e0 : ((l.length : Int) != (l.length : Int)) = false := by simp
  go_enter Tryd.func43, Tryd.ntmps43
  go_wp2_with fail
  go_loopw [5] (fun q wr => ∃ (k : Nat), k ≤ l.length ∧ q = .int .i64 k ∧ Kept (fun _ => False) w wr) (fun q _ => l.length - (intOf q).toNat)
  case atStart => exact ⟨0, Nat.zero_le _, rfl, Kept.refl _ _⟩
  case round =>
    obtain ⟨k, hk, rfl, K⟩ := hrel
    by_cases hlk : k < l.length
    · have e1 : (k : Int) < (l.length : Int) := by omega
      obtain ⟨b1, d1, s1, _, n1⟩ := (H1.out.kept K (fun _ _ h => h)).at
      obtain ⟨rfl, rfl⟩ : a1 = b1 ∧ c1 = d1 := by simpa using s1
      obtain ⟨b2, d2, s2, _, n2⟩ := (H2.out.kept K (fun _ _ h => h)).at
      obtain ⟨rfl, rfl⟩ : a2 = b2 ∧ c2 = d2 := by simpa using s2
      obtain ⟨xb, xo, rfl, hx⟩ := n1 (fun e => by rw [e] at hlk; simp at hlk)
      obtain ⟨yb, yo, rfl, hy⟩ := n2 (fun e => by rw [e] at hlk; simp at hlk)
      have x0 := hx k hlk
      have y0 := hy k hlk
      have w1 : IntKind.i64.wrap (k : Int) = (k : Int) := by rw [IntKind.wrap_i64]; omega
      have q0 : ((l[k]).toList != (l[k]).toList) = false := by simp
      clear s1 s2 n1 n2 hx hy
      generalize l[k] = s at *
      go_wp2_with (first | go_quiet (fail) | fail)
      go_roundw
      case rel => exact ⟨k + 1, by omega, by go_num, K.and (Kept.drewN _ _ _)⟩
      case measure => simp [intOf]; omega
    · obtain rfl : k = l.length := by omega
      have e1 : ¬ (l.length : Int) < (l.length : Int) := by omega
      go_wp2_with fail
      go_ret
      exact ⟨rfl, K⟩

set_option maxRecDepth 100000 in
set_option maxHeartbeats 2000000 in
theorem node_same (w : World) (n : Nd) (a1 a2 : Option Addr) (c1 c2 : Nat) (h1 : TextsAt w (.slice a1 n.after.length c1) n.after) (h2 : TextsAt w (.slice a2 n.after.length c2) n.after) (hl : n.after.length ≤ 1000000) :
    Calls Tryd.prog 20 #[.agg #[.string n.name, .int .i64 n.kind, .string n.arg, .string n.to, .int .i64 n.delay, .int .i64 n.tries, .slice a1 n.after.length c1], .agg #[.string n.name, .int .i64 n.kind, .string n.arg, .string n.to, .int .i64 n.delay, .int .i64 n.tries, .slice a2 n.after.length c2]] w fun e w' => e = .returned (.bool true) ∧ Kept (fun _ => False) w w' := by
  have K2 : Kept (fun _ => False) w ((w.alloc (.cells #[.string n.name, .int .i64 n.kind, .string n.arg, .string n.to, .int .i64 n.delay, .int .i64 n.tries, .slice a1 n.after.length c1] 44)).alloc (.cells #[.string n.name, .int .i64 n.kind, .string n.arg, .string n.to, .int .i64 n.delay, .int .i64 n.tries, .slice a2 n.after.length c2] 44)) := (Kept.alloc _ _ _).and (Kept.alloc _ _ _)
  have hT := texts_same _ a1 a2 c1 c2 n.after (h1.kept K2 (fun _ _ h => h)) (h2.kept K2 (fun _ _ h => h)) hl
  have HK2 : Hid _ := K2
  have q0 : (n.name.toList == n.name.toList) = true := by simp
  have q1 : (n.kind == n.kind) = true := by simp
  have q2 : (n.arg.toList == n.arg.toList) = true := by simp
  have q3 : (n.to.toList == n.to.toList) = true := by simp
  have q4 : (n.delay == n.delay) = true := by simp
  have q5 : (n.tries == n.tries) = true := by simp
  clear h1 h2 K2
  go_enter Tryd.func20, Tryd.ntmps20
  go_wp2_with (first
    | (go_at_call 43; refine hT.mono ?_; rintro e w5 ⟨rfl, K5⟩; clear hT)
    | fail)
  go_ret
  exact ⟨rfl, HK2.out.and K5⟩

set_option maxRecDepth 100000 in
set_option maxHeartbeats 4000000 in
theorem def_same (w : World) (name : ByteArray) (a1 a2 : Option Addr) (c1 c2 : Nat) (ns : List Nd) (h1 : NodesAt w a1 ns) (h2 : NodesAt w a2 ns) (hn : ns.length ≤ 1000000) :
    Calls Tryd.prog 8 #[.agg #[.string name, .slice a1 ns.length c1], .agg #[.string name, .slice a2 ns.length c2]] w fun e w' => e = .returned (.bool true) ∧ Kept (fun _ => False) w w' := by
  have H1 : Hid (NodesAt w a1 ns) := h1
  have H2 : Hid (NodesAt w a2 ns) := h2
  have q0 : (name.toList != name.toList) = false := by simp
  have q1 : ((ns.length : Int) != (ns.length : Int)) = false := by simp
  clear h1 h2
  go_enter Tryd.func8, Tryd.ntmps8
  go_wp2_with fail
  go_loopw [5] (fun q wr => ∃ (k : Nat), k ≤ ns.length ∧ q = .int .i64 k ∧ Kept (fun _ => False) ((w.alloc (.cells #[.string name, .slice a1 ns.length c1] 26)).alloc (.cells #[.string name, .slice a2 ns.length c2] 26)) wr) (fun q _ => ns.length - (intOf q).toNat)
  case atStart => exact ⟨0, Nat.zero_le _, rfl, Kept.refl _ _⟩
  case round =>
    obtain ⟨k, hk, rfl, K⟩ := hrel
    have Kw : Kept (fun _ => False) w wr := ((Kept.alloc (fun _ => False) _ _).and (Kept.alloc _ _ _)).and K
    have z1 : wr.cell? ⟨w.heap.size, 1, none⟩ = some (.slice a1 ns.length c1) := boxC ((Kept.alloc (fun _ => False) _ _).and K) (fun h => h) 1 _ rfl
    have z2 : wr.cell? ⟨w.heap.size + 1, 1, none⟩ = some (.slice a2 ns.length c2) := by
      have h := boxC K (fun h => h) 1 _ rfl
      rw [World.size_alloc] at h
      exact h
    by_cases hlk : k < ns.length
    · have e1 : (k : Int) < (ns.length : Int) := by omega
      obtain ⟨b1, o1, v1, d1, rfl, t1, x0, x1, x2, x3, x4, x5, x6⟩ := (keptNew Kw H1.out).at hlk
      obtain ⟨b2, o2, v2, d2, rfl, t2, y0, y1, y2, y3, y4, y5, y6⟩ := (keptNew Kw H2.out).at hlk
      have hfew := (H1.out.1 _ (List.getElem_mem hlk)).few
      have KD := Kept.drew (fun _ => False) wr
      have hN := node_same wr.drew ns[k] v1 v2 d1 d2 (t1.kept KD (fun _ _ h => h)) (t2.kept KD (fun _ _ h => h)) hfew
      have w1 : IntKind.i64.wrap (k : Int) = (k : Int) := by rw [IntKind.wrap_i64]; omega
      have HS : Hid (∀ V, Kept (fun _ => False) wr.drew V → Kept (fun _ => False) wr.drew V ∧ V.cell? ⟨w.heap.size, 1, none⟩ = some (.slice (some ⟨b1, o1, none⟩) ns.length c1) ∧ V.cell? ⟨w.heap.size + 1, 1, none⟩ = some (.slice (some ⟨b2, o2, none⟩) ns.length c2) ∧
          (V.cell? ⟨b1, o1 + k * 7, none⟩ = some (.string (ns[k]).name) ∧ V.cell? ⟨b1, o1 + k * 7 + 1, none⟩ = some (.int .i64 (ns[k]).kind) ∧ V.cell? ⟨b1, o1 + k * 7 + 2, none⟩ = some (.string (ns[k]).arg) ∧ V.cell? ⟨b1, o1 + k * 7 + 3, none⟩ = some (.string (ns[k]).to) ∧ V.cell? ⟨b1, o1 + k * 7 + 4, none⟩ = some (.int .i64 (ns[k]).delay) ∧ V.cell? ⟨b1, o1 + k * 7 + 5, none⟩ = some (.int .i64 (ns[k]).tries) ∧ V.cell? ⟨b1, o1 + k * 7 + 6, none⟩ = some (.slice v1 (ns[k]).after.length d1)) ∧
          (V.cell? ⟨b2, o2 + k * 7, none⟩ = some (.string (ns[k]).name) ∧ V.cell? ⟨b2, o2 + k * 7 + 1, none⟩ = some (.int .i64 (ns[k]).kind) ∧ V.cell? ⟨b2, o2 + k * 7 + 2, none⟩ = some (.string (ns[k]).arg) ∧ V.cell? ⟨b2, o2 + k * 7 + 3, none⟩ = some (.string (ns[k]).to) ∧ V.cell? ⟨b2, o2 + k * 7 + 4, none⟩ = some (.int .i64 (ns[k]).delay) ∧ V.cell? ⟨b2, o2 + k * 7 + 5, none⟩ = some (.int .i64 (ns[k]).tries) ∧ V.cell? ⟨b2, o2 + k * 7 + 6, none⟩ = some (.slice v2 (ns[k]).after.length d2))) := fun V KV =>
        have g : ∀ {ad : Addr} {u : Value}, wr.cell? ad = some u → V.cell? ad = some u := fun h => keepC (KD.and KV) h (fun _ _ h => h)
        ⟨KV, g z1, g z2, ⟨g x0, g x1, g x2, g x3, g x4, g x5, g x6⟩, ⟨g y0, g y1, g y2, g y3, g y4, g y5, g y6⟩⟩
      have HKD : Hid (Kept (fun _ => False) wr wr.drew) := KD
      clear t1 t2 KD x0 x1 x2 x3 x4 x5 x6 y0 y1 y2 y3 y4 y5 y6
      generalize ns[k] = n at *
      go_wp2_with fail
      refine wp_onlyN ?_
      (go_region_held (fun V => Kept (fun _ => False) wr.drew V ∧ V.cell? ⟨w.heap.size, 1, none⟩ = some (.slice (some ⟨b1, o1, none⟩) ns.length c1) ∧ V.cell? ⟨w.heap.size + 1, 1, none⟩ = some (.slice (some ⟨b2, o2, none⟩) ns.length c2) ∧
          (V.cell? ⟨b1, o1 + k * 7, none⟩ = some (.string n.name) ∧ V.cell? ⟨b1, o1 + k * 7 + 1, none⟩ = some (.int .i64 n.kind) ∧ V.cell? ⟨b1, o1 + k * 7 + 2, none⟩ = some (.string n.arg) ∧ V.cell? ⟨b1, o1 + k * 7 + 3, none⟩ = some (.string n.to) ∧ V.cell? ⟨b1, o1 + k * 7 + 4, none⟩ = some (.int .i64 n.delay) ∧ V.cell? ⟨b1, o1 + k * 7 + 5, none⟩ = some (.int .i64 n.tries) ∧ V.cell? ⟨b1, o1 + k * 7 + 6, none⟩ = some (.slice v1 n.after.length d1)) ∧
          (V.cell? ⟨b2, o2 + k * 7, none⟩ = some (.string n.name) ∧ V.cell? ⟨b2, o2 + k * 7 + 1, none⟩ = some (.int .i64 n.kind) ∧ V.cell? ⟨b2, o2 + k * 7 + 2, none⟩ = some (.string n.arg) ∧ V.cell? ⟨b2, o2 + k * 7 + 3, none⟩ = some (.string n.to) ∧ V.cell? ⟨b2, o2 + k * 7 + 4, none⟩ = some (.int .i64 n.delay) ∧ V.cell? ⟨b2, o2 + k * 7 + 5, none⟩ = some (.int .i64 n.tries) ∧ V.cell? ⟨b2, o2 + k * 7 + 6, none⟩ = some (.slice v2 n.after.length d2))) (first | exact HS.out _ (Kept.refl _ _) | exact HS.out _ (by assumption)) (first
        | (go_at_call 20; refine hN.mono ?_; rintro e w5 ⟨rfl, K5⟩)
        | fail))
      simp only [onlyN]
      rename_i hHeld
      clear hHeld HS hN z1 z2
      have K5' : Kept (fun _ => False) wr w5 := HKD.out.and K5
      clear K5
      go_wp2_with fail
      go_roundw
      case rel => exact ⟨k + 1, by omega, by go_num, K.and K5'⟩
      case measure => simp [intOf]; omega
    · obtain rfl : k = ns.length := by omega
      have e1 : ¬ (ns.length : Int) < (ns.length : Int) := by omega
      go_wp2_with fail
      go_ret
      exact ⟨rfl, Kw⟩

end Go.Proofs.YtlholgpenpfpbaaDoor

/-
  DagSpaces holds for all definitions and texts: the law's call returns true and leaves its arguments as they were. No condition; the listed variables are tied to the program's text.
-/
namespace Go.Proofs.YtlholgpenpfpbaaDoor
open Go.ChangeShapes Go.WideShapes Go.ChangeAt Go.RowKit

theorem text_empty {nm : ByteArray} {ns : List Nd} (h : (checkP nm ns).2 ≠ 0) : textP nm ns = ⟨#[]⟩ := if_neg h

theorem text_some {nm : ByteArray} {ns : List Nd} (h : (checkP nm ns).2 = 0) : 0 < (textP nm ns).size := by
  unfold textP
  rw [if_pos h, mkB_size]
  unfold linesW
  rw [textL_cons, List.length_append, List.length_cons]
  omega

theorem wd_small {rem : Nat → ByteArray} {m : Nat} {s : ByteArray} {i k : Nat} {acc : ByteArray} (S : WdSt rem m s i k acc) (hs : s.size ≤ 6000) (hi : i ≤ s.size) (hm : m ≤ 8) : acc.size ≤ 12400 := by
  have := S.few
  have := S.le
  omega

set_option maxRecDepth 100000 in
set_option maxHeartbeats 8000000 in
theorem dagSpaces_walk (name : ByteArray) (a : Option Addr) (c : Nat) (ns : List Nd) (ar : Option Addr) (len cap : Nat) (rem : Nat → ByteArray) (w : World) (R : RawAt w a ns) (hc : ns.length ≤ c) (hS : StrsAt w ar len rem) (T10 : Pow10 w) :
    Calls Tryd.prog 4 #[.agg #[.string name, .slice a ns.length c], .slice ar len cap] w fun e w' => e = .returned (.bool true) ∧ Below w.heap.size w w' := by
  have hW := fun V => wakes_any V
  have hCut := lawCut_any (w.alloc (.cells #[.string name, .slice a ns.length c] 26)) name a ns.length c ns (R.kept (Kept.alloc (fun _ => False) _ _) (fun _ _ h => h)) rfl hc
  have hlen : (cutNs ns).length ≤ 40 := by unfold cutNs; simp; omega
  generalize cutNs ns = ms at *
  clear R
  have HTx : Hid (∀ V a' c', NodesAt V a' ms → Pow10 V → Calls Tryd.prog 12 #[.agg #[.string name, .slice a' ms.length c']] V fun e w' => e = .returned (.string (textP name ms)) ∧ Kept (fun _ => False) V w') := fun V a' c' N P => text_any V name a' ms.length c' ms N rfl P
  have HP : Hid (Pow10 w) := T10
  have HSt : Hid (StrsAt w ar len rem) := hS
  clear T10 hS
  by_cases hT : (checkP name ms).2 = 0
  · by_cases h6 : (textP name ms).size ≤ 6000
    · have hpos := text_some hT
      have HPa : Hid (∀ m t, t = mkB ([32, 32, 10] ++ wideK rem m (textP name ms).data.toList 0) → t.size ≤ 16384 → parseP t = (some (name, ms), 0, 0)) := fun m t ht hsz => by
        subst ht
        exact wide_parse hT rem m hsz
      generalize textP name ms = s at *
      have e1 : (s.toList.isEmpty) = false := by
        have : s.toList = s.data.toList := Lib.toList_data s
        rw [this]
        cases hh : s.data.toList with
        | nil => have : s.data.toList.length = s.size := by simp
                 rw [hh] at this; simp at this; omega
        | cons b r => rfl
      have e2 : ¬ (6000 : Int) < (s.size : Int) := by omega
      clear hT hpos
      go_enter Tryd.func4, Tryd.ntmps4
      go_wp2_with (first
        | (go_at_call 11; refine hCut.mono ?_; rintro e w1 ⟨a', c', rfl, N1, hc1, K1⟩; clear hCut; have hd := boxD K1; obtain ⟨d0, d1⟩ := hd; have B1 := BoxSt.mk' (m := ms.length) (c' := c') K1 N1; have fz := (K1.block w.heap.size (by simp) (fun h => h)).trans (heap_alloc_new _ _); obtain ⟨_, f0, f1⟩ := twoC fz; obtain ⟨⟨x0, x1⟩, _, _⟩ := twoC B1.b0; have hTx := HTx.out _ _ c' B1.nodes (HP.out.kept B1.kept); have HB : Hid (BoxSt w ((w1.setCell ⟨w.heap.size, 0, none⟩ (.string name)).setCell ⟨w.heap.size, 1, none⟩ (.slice a' ms.length c')) name a' ms.length c' ms) := B1; clear fz B1 N1)
        | (go_at_call 12; refine hTx.mono ?_; rintro e w2 ⟨rfl, K2⟩; clear hTx; have y0 := keepC K2 x0 (fun _ _ h => h); have y1 := keepC K2 x1 (fun _ _ h => h))
        | fail)
      have HB2 : Hid (w2.heap[w.heap.size]? = some (.cells #[.string name, .slice a' ms.length c'] 26 (0, 0))) := (K2.block _ (Array.getElem?_eq_some_iff.1 HB.out.b0).1 (fun h => h)).trans HB.out.b0
      have HN2 : Hid (NodesAt w2 a' ms) := keptNew K2 HB.out.nodes
      have HK2 : Hid (Kept (fun _ => False) w w2) := HB.out.kept.and K2
      clear HB K2 x0 x1 y0 y1 d0 d1 f0 f1 K1 HTx HP
      obtain ⟨m, hm⟩ : ∃ m, m = min len 8 := ⟨_, rfl⟩
      have hm8 : m ≤ 8 := by omega
      have hml : m ≤ len := by omega
      have hkm : ∀ k : Nat, k < m ↔ (k < len ∧ k < 8) := fun k => by omega
      have HKm : Hid (∀ k : Nat, k < m ↔ (k < len ∧ k < 8)) := hkm
      have HWd0 : Hid (WdSt rem m s 0 0 ⟨#[]⟩) := WdSt.zero rem m s
      clear hm hkm
      go_loopw [6, 7, 8] (fun p l q wr => ∃ (i k : Nat) (acc : ByteArray), i ≤ s.size ∧ q = .int .i64 i ∧ l = .int .i64 k ∧ p = .string acc ∧ WdSt rem m s i k acc ∧ Kept (fun _ => False) w2 wr) (fun _ _ q _ => s.size - (intOf q).toNat)
      case atStart => exact ⟨0, 0, ⟨#[]⟩, Nat.zero_le _, rfl, rfl, rfl, HWd0.out, Kept.refl _ _⟩
      case round =>
        obtain ⟨i, k, acc, hi, rfl, rfl, rfl, hwd, K⟩ := hrel
        have hacc := wd_small hwd h6 hi hm8
        have hkle : k ≤ m := hwd.le
        have HWd : Hid (WdSt rem m s i k acc) := hwd
        have HK : Hid (Kept (fun _ => False) w2 wr) := K
        clear hwd K HWd0
        by_cases hlt : i < s.size
        · have e0 : (i : Int) < (s.size : Int) := by omega
          have hx : (s.extract i (i + 1)).size ≤ 1 := by rw [ByteArray.size_extract]; omega
          by_cases h32 : s.get! i = 32
          · have b1 : (((s[i]).toNat : Int) == 32) = true := (byte_is hlt 32).trans (by rw [h32]; rfl)
            have b2 : (((s[i]).toNat : Int) == 10) = false := (byte_is hlt 10).trans (by rw [h32]; rfl)
            have HW2 : Hid (WdSt rem m s (i + 1) k (acc ++ s.extract i (i + 1) ++ ⟨#[32]⟩)) := HWd.out.blank hlt h32
            clear h32 HPa
            go_wp2_with fail
            go_roundw
            case rel => exact ⟨i + 1, k, _, by omega, by go_num, rfl, rfl, HW2.out, HK.out⟩
            case measure => simp [intOf]; omega
          · have b1 : (((s[i]).toNat : Int) == 32) = false := (byte_is hlt 32).trans (by simp [h32])
            by_cases h10 : s.get! i = 10
            · have b2 : (((s[i]).toNat : Int) == 10) = true := (byte_is hlt 10).trans (by rw [h10]; rfl)
              by_cases hk : k < m
              · have e3 : (k : Int) < (len : Int) := by omega
                have e4 : (k : Int) < 8 := by omega
                obtain ⟨rb, ro, rfl, hcell⟩ := HSt.out.at (j := k) (by omega)
                obtain ⟨x00, hs0⟩ := hcell k (by omega)
                have x0 := keepC (HK2.out.and HK.out) x00 (fun _ _ h => h)
                have hPl := fun V => plain_any V (rem k) hs0
                have hps : (mkB (plainP (rem k))).size ≤ 40 := by rw [mkB_size]; exact plain_len _
                have HW2 : Hid (WdSt rem m s (i + 1) (k + 1) (acc ++ s.extract i (i + 1) ++ ⟨#[32, 32, 35]⟩ ++ mkB (plainP (rem k)) ++ ⟨#[10, 32, 10]⟩)) := HWd.out.end hlt h10 hk
                clear h32 h10 HPa hcell x00 hs0
                generalize mkB (plainP (rem k)) = pl at *
                generalize rem k = rk at *
                go_wp2_with (first
                  | (go_at_call 13; refine (hPl _).mono ?_; rintro e w3 ⟨rfl, hw⟩; subst w3; clear hPl)
                  | fail)
                go_roundw
                case rel => exact ⟨i + 1, k + 1, _, by omega, by go_num, by go_num, rfl, HW2.out, HK.out⟩
                case measure => simp [intOf]; omega
              · have HW2 : Hid (WdSt rem m s (i + 1) k (acc ++ s.extract i (i + 1))) := HWd.out.other hlt h32 (fun h => hk h.2)
                clear h32 h10 HPa
                by_cases hkl : k < len
                · have e3 : (k : Int) < (len : Int) := by omega
                  have e4 : ¬ (k : Int) < 8 := by have := HKm.out k; omega
                  go_wp2_with fail
                  go_roundw
                  case rel => exact ⟨i + 1, k, _, by omega, by go_num, rfl, rfl, HW2.out, HK.out⟩
                  case measure => simp [intOf]; omega
                · have e3 : ¬ (k : Int) < (len : Int) := by omega
                  go_wp2_with fail
                  go_roundw
                  case rel => exact ⟨i + 1, k, _, by omega, by go_num, rfl, rfl, HW2.out, HK.out⟩
                  case measure => simp [intOf]; omega
            · have b2 : (((s[i]).toNat : Int) == 10) = false := (byte_is hlt 10).trans (by simp [h10])
              have HW2 : Hid (WdSt rem m s (i + 1) k (acc ++ s.extract i (i + 1))) := HWd.out.other hlt h32 (fun h => h10 h.1)
              clear h32 h10 HPa
              go_wp2_with fail
              go_roundw
              case rel => exact ⟨i + 1, k, _, by omega, by go_num, rfl, rfl, HW2.out, HK.out⟩
              case measure => simp [intOf]; omega
        · have e0 : ¬ (i : Int) < (s.size : Int) := by omega
          have hfin := HWd.out.done (by omega)
          have hsz : ((⟨#[32, 32, 10]⟩ : ByteArray) ++ acc).size ≤ 16384 := by
            rw [ByteArray.size_append]
            have : (⟨#[32, 32, 10]⟩ : ByteArray).size = 3 := rfl
            omega
          have hp := HPa.out m _ hfin hsz
          have hPr := fun V => parse_any V ((⟨#[32, 32, 10]⟩ : ByteArray) ++ acc) (Nat.le_trans hsz (by omega))
          rw [hp] at hPr
          clear hp hfin HPa HWd hsz
          have q0 := (HK.out.block _ (Array.getElem?_eq_some_iff.1 HB2.out).1 (fun h => h)).trans HB2.out
          go_wp2_with (first
            | (go_at_call 6; refine (hPr _).mono ?_; rintro e w3 ⟨_, hn, K3⟩; obtain ⟨a3, c3, rfl, N3, _⟩ := hn name ms 0 0 rfl; clear hPr hn; have HN3 : Hid (NodesAt (w3.alloc (.cells #[.string name, .slice a3 ms.length c3] 26)) a3 ms) := keptNew (Kept.alloc _ _ _) N3; have HN4 : Hid (NodesAt (w3.alloc (.cells #[.string name, .slice a3 ms.length c3] 26)) a' ms) := keptNew ((HK.out.and K3).and (Kept.alloc _ _ _)) HN2.out; have HK4 : Hid (Kept (fun _ => False) w (w3.alloc (.cells #[.string name, .slice a3 ms.length c3] 26))) := ((HK2.out.and HK.out).and K3).and (Kept.alloc _ _ _); have q1 : (w3.alloc (.cells #[.string name, .slice a3 ms.length c3] 26)).heap[w.heap.size]? = some (.cells #[.string name, .slice a' ms.length c'] 26 (0, 0)) := ((K3.and (Kept.alloc (fun _ => False) _ _)).block _ (Array.getElem?_eq_some_iff.1 q0).1 (fun h => h)).trans q0; obtain ⟨⟨z0, z1⟩, _, _⟩ := twoC q1; clear N3 K3 q0 q1)
            | (go_at_call 8; refine (def_same _ name a3 a' c3 c' ms HN3.out HN4.out (by omega)).mono ?_; rintro e w4 ⟨rfl, K4⟩)
            | (go_at_call 10; refine (hW _).mono ?_; rintro e w5 ⟨rfl, K5⟩)
            | fail)
          go_ret
          exact ⟨rfl, ((HK4.out.and K4).and K5).none⟩
    · have hpos := text_some hT
      generalize textP name ms = s at *
      have e1 : (s.toList.isEmpty) = false := by
        have : s.toList = s.data.toList := Lib.toList_data s
        rw [this]
        cases hh : s.data.toList with
        | nil => have : s.data.toList.length = s.size := by simp
                 rw [hh] at this; simp at this; omega
        | cons b r => rfl
      have e2 : (6000 : Int) < (s.size : Int) := by omega
      clear hT hpos
      go_enter Tryd.func4, Tryd.ntmps4
      go_wp2_with (first
        | (go_at_call 11; refine hCut.mono ?_; rintro e w1 ⟨a', c', rfl, N1, hc1, K1⟩; clear hCut; have hd := boxD K1; obtain ⟨d0, d1⟩ := hd; have B1 := BoxSt.mk' (m := ms.length) (c' := c') K1 N1; have fz := (K1.block w.heap.size (by simp) (fun h => h)).trans (heap_alloc_new _ _); obtain ⟨_, f0, f1⟩ := twoC fz; obtain ⟨⟨x0, x1⟩, _, _⟩ := twoC B1.b0; have hTx := HTx.out _ _ c' B1.nodes (HP.out.kept B1.kept); have HB : Hid (BoxSt w ((w1.setCell ⟨w.heap.size, 0, none⟩ (.string name)).setCell ⟨w.heap.size, 1, none⟩ (.slice a' ms.length c')) name a' ms.length c' ms) := B1; clear fz B1 N1)
        | (go_at_call 12; refine hTx.mono ?_; rintro e w2 ⟨rfl, K2⟩; clear hTx; have y0 := keepC K2 x0 (fun _ _ h => h); have y1 := keepC K2 x1 (fun _ _ h => h))
        | (go_at_call 10; refine (hW _).mono ?_; rintro e w5 ⟨rfl, K5⟩)
        | fail)
      go_ret
      exact ⟨rfl, ((HB.out.kept.and K2).and K5).none⟩
  · have hs0 := text_empty hT
    rw [hs0] at HTx
    clear hT hs0
    go_enter Tryd.func4, Tryd.ntmps4
    go_wp2_with (first
      | (go_at_call 11; refine hCut.mono ?_; rintro e w1 ⟨a', c', rfl, N1, hc1, K1⟩; clear hCut; have hd := boxD K1; obtain ⟨d0, d1⟩ := hd; have B1 := BoxSt.mk' (m := ms.length) (c' := c') K1 N1; have fz := (K1.block w.heap.size (by simp) (fun h => h)).trans (heap_alloc_new _ _); obtain ⟨_, f0, f1⟩ := twoC fz; obtain ⟨⟨x0, x1⟩, _, _⟩ := twoC B1.b0; have hTx := HTx.out _ _ c' B1.nodes (HP.out.kept B1.kept); have HB : Hid (BoxSt w ((w1.setCell ⟨w.heap.size, 0, none⟩ (.string name)).setCell ⟨w.heap.size, 1, none⟩ (.slice a' ms.length c')) name a' ms.length c' ms) := B1; clear fz B1 N1)
      | (go_at_call 12; refine hTx.mono ?_; rintro e w2 ⟨rfl, K2⟩; clear hTx; have y0 := keepC K2 x0 (fun _ _ h => h); have y1 := keepC K2 x1 (fun _ _ h => h))
      | (go_at_call 10; refine (hW _).mono ?_; rintro e w5 ⟨rfl, K5⟩)
      | fail)
    go_ret
    exact ⟨rfl, ((HB.out.kept.and K2).and K5).none⟩

set_option maxRecDepth 100000 in
theorem dagSpaces_lifted (os : Os) (started : os.Started) (H : Type) (enc : TypeId × Value → H) :
    ReturnsInHanded {} Tryd.checked os 4 .any (fun w args => (Rows.dagSpacesSpec.pre enc Tryd.prog Tryd.f4 [] false w args ∧ laidMetH Tryd.prog laidL w) ∧ sizedMet enc Tryd.prog Tryd.f4 (OpenSpec.ofChange Rows.dagSpacesSpec) false w args)
      (Rows.dagSpacesSpec.post enc Tryd.prog Tryd.f4 false true false false) := by
  refine returnsInHanded_of_change_and (C := Tryd.checked) (X := fun w _ => laidMetH Tryd.prog laidL w) (fun _ _ _ hh h => h.of_heap hh) Tryd.own started (by kernel_rfl) Tryd.func4
    (ChangeSpec.witness_shaped (enc := enc) (C := Tryd.checked) (os := os) (X := fun w _ => laidMetH Tryd.prog laidL w) false (World.doorLaid Tryd.prog 62 os) #[.agg #[.string ⟨#[]⟩, .slice none 0 0], .slice none 0 0] 8 rfl (World.shaped_of_RefB (by kernel_rfl) (by kernel_rfl)) (by kernel_rfl) (by kernel_rfl) (by kernel_rfl) (door_met os _)) ?_
  intro W base args ds gs before hval0 hW _ _ hL _
  have hval : ∀ (j : Nat) t v, Tryd.f4.params[j]? = some t → args[j]? = some v → Value.okWide Tryd.prog W .any base t v := hval0
  have hW' := hW
  obtain ⟨p, q, hA0, hV, rfl, _, _⟩ := hW
  have hA : DataW.TrodAll enc Tryd.prog W 0 (fun _ => true) true Tryd.f4.params.toList args.toList ds p := hA0
  rw [Tryd.params4] at hA hval
  obtain ⟨v0, vs0, d0, ds0, p0, q0, hargs, rfl, rfl, h0, r0⟩ := trodAll_cons hA
  obtain ⟨v1, vs1, d1, ds1, p1, q1, rfl, rfl, rfl, h1, r1⟩ := trodAll_cons r0
  obtain ⟨rfl, rfl, rfl⟩ := trodAll_nil r1
  obtain rfl : args = #[v0, v1] := by cases args; simp_all
  obtain ⟨rfl, rfl⟩ := trodVars_none hV
  have k0 := h0
  have k1 := h1
  have lt0 : ∀ x ∈ p0, x.block < W.heap.size := by obtain ⟨m, hm⟩ := k0; exact DataW.trod_lt m _ _ _ hm
  have lt1 : ∀ x ∈ p1, x.block < W.heap.size := by obtain ⟨m, hm⟩ := k1; exact DataW.trod_lt m _ _ _ hm
  obtain ⟨nm0, a0, c0, ns0, rfl, z0, y0, x0, w0⟩ := dv_open (hval 0 26 v0 rfl rfl) h0
  obtain ⟨a1', len1', cap1', rfl⟩ := okWide_slice Tryd.underlying22 (hval 1 22 v1 rfl rfl)
  obtain ⟨a1, len1, cap1, S1, e1, _, _, w1⟩ : ∃ a len cap S, Value.slice a1' len1' cap1' = .slice a len cap ∧ len ≤ cap ∧ cap ≤ maxLen ∧ StrsAt W a len S := by
    obtain ⟨fuel, hf⟩ := h1
    exact strs_open Tryd.underlying22 Tryd.underlying9 (by kernel_rfl) hf
  simp only [Value.slice.injEq] at e1
  obtain ⟨rfl, rfl, rfl⟩ := e1
  clear hA0 hval0
  refine (dagSpaces_walk _ _ _ _ _ _ _ _ W w0 y0 w1 (pow10_laid hL)).mono fun e W' ⟨he, bel⟩ => ?_
  subst he
  exact ⟨_, rfl, _, _, _, [], _, [], hW', trodAll_mk1 (shut_bool Tryd.underlying4 _), (trodAll_cons_mk (Below.trod Tryd.laidOut (by kernel_rfl) (of_decide_eq_true (by kernel_rfl)) k0 bel lt0) (trodAll_cons_mk (Below.trod Tryd.laidOut (by kernel_rfl) (of_decide_eq_true (by kernel_rfl)) k1 bel lt1) trodAll_mk0)), rfl, bel.frame _, fun h => by cases h⟩

theorem dagSpaces_row : Rows.DagSpacesSaid :=
  OpenClaim.holds_of_wide 4 Tryd.f4 rfl rfl rfl rfl rfl rfl rfl ⟨rfl, rfl, rfl, rfl, rfl⟩ rfl rfl rfl rfl rfl (by kernel_rfl) Tryd.func4 (by kernel_rfl)
    (of_decide_eq_true (by kernel_rfl)) (by unfold Func.isWrapper; first | (rw [if_pos (by decide +kernel)]; kernel_rfl) | (rw [if_neg (by decide +kernel)]; exact ⟨rfl, rfl⟩))
    (fun os started H enc _ => dagSpaces_lifted os started H enc)

theorem dagSpaces_holds : Rows.DagSpacesCardSaid :=
  Claim7.holds_tied_plain_at .later [] [.data, .data, .data, .sentinel, .sentinel] true Rows.dagSpacesCard.stood.harness true
    dagSpaces_row (fun _ h => by cases h) (by kernel_rfl) (fun _ h => by cases h) dagSpaces_row_tie rfl ⟨rfl, rfl⟩ (by kernel_rfl) rfl
    (fun f fn hf hfn => by
      obtain rfl : f = 4 := Option.some.inj ((show Tryd.prog.funcNamed "tiller/tillerlaw08.DagSpaces" = some 4 by kernel_rfl).symm.trans hf) |>.symm
      obtain rfl : fn = Tryd.f4 := (Option.some.inj (Tryd.func4.symm.trans hfn)).symm
      exact ⟨by kernel_rfl, fun j t ht => by
        rw [Tryd.params4] at ht
        have hm : t ∈ [26, 22] := by simpa using Array.mem_of_getElem? ht
        have hall : ([26, 22].all fun u => !Tryd.prog.wantsStandIn u) = true := by kernel_rfl
        exact (show Tryd.prog.wantsStandIn t = false by simpa using List.all_eq_true.1 hall t hm)⟩)
    (by kernel_rfl)

end Go.Proofs.YtlholgpenpfpbaaDoor
