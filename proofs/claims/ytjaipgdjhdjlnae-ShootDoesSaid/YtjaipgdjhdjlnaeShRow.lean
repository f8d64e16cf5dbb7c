
/-
  A Shoot, a list of numbers, a mapping and a step that a call has made for itself, apart from each other; and plain facts on those that wait.
-/
import Derived.Test.YtjaipgdjhdjlnaeShB
import Derived.Test.YtjaipgdjhdjlnaeFrameSh
namespace Go.Proofs.Ytjaipgdjhdjlnae
open Go.RowKit Go.Sort
set_option linter.unusedVariables false
set_option maxRecDepth 100000

theorem shGetD {l : List Nat} {j : Nat} (hj : j < l.length) : l.getD j 0 = l[j] := by simp [List.getD, hj]
/-- The list l lies at ad. -/
def ShList (w : World) (ad : Option Addr) (l : List Nat) : Prop := ∀ j, j < l.length → ∃ g, ad = some ⟨g, 0, none⟩ ∧ w.cell? ⟨g, j, none⟩ = some (.int .i64 (l.getD j 0 : Nat))
theorem owns_shList {w : World} {base : Nat} {ad : Option Addr} {n cap : Nat} {l : List Nat} (h : w.ownsRow base 3 1 (.slice ad n cap) l.length (nats l)) : ShList w ad l := by
  intro j hj
  obtain ⟨g, cap', e, _, _⟩ := h.form (by omega)
  cases e
  refine ⟨g, rfl, ?_⟩
  rw [h.cellAt j (by omega), nats, List.getElem?_map, List.getElem?_eq_getElem hj, shGetD hj]
  rfl
theorem infoIntS : (Try.prog.info? 3).map (fun i => (i.zero, i.size, i.bytes)) = some (some (.int .i64 0), 1, 8) := by kernel_rfl
theorem sh_drewN (w : World) (n : Nat) (v : Value) (t : TypeId) : ((w.drewN n).alloc (.cells #[v] t)).cell? ⟨w.heap.size, 0, none⟩ = some v := by
  have h := heap_alloc_new (w.drewN n) (.cells #[v] t)
  have e : (w.drewN n).heap.size = w.heap.size := by simp
  rw [e] at h
  exact cell_of_row _ _ 0 _ _ _ h

/-- Is a number among others? -/
theorem shIn_any (ad : Option Addr) (cap : Nat) (l : List Nat) (k : Int) (w : World) (h : ShList w ad l) (hl : l.length ≤ 128) :
    Calls Try.prog 32 #[.slice ad l.length cap, .int .i64 k] w fun e w' => e = .returned (.bool (l.any fun j => (j : Int) == k)) ∧ w' = w := by
  have HL : Hid _ := h
  clear h
  go_enter Try.func32, Try.ntmps32
  go_wp2_with fail
  go_loopw [5] (fun i wr => ∃ j : Nat, j ≤ l.length ∧ i = .int .i64 j ∧ wr = w ∧ Hid (∀ c, c < j → ((l.getD c 0 : Nat) : Int) ≠ k)) (fun i _ => l.length - (intOf i).toNat)
  case atStart => exact ⟨0, by omega, rfl, rfl, fun c hc => by omega⟩
  case round =>
    obtain ⟨j, hj, rfl, rfl, HN⟩ := hrel
    have i0 : (0 : Int) ≤ (j : Int) := by omega
    by_cases hlt : j < l.length
    · obtain ⟨g, rfl, hc⟩ := HL.out j hlt
      have i1 : (j : Int) < (l.length : Int) := by omega
      have hm : Hid (l.getD j 0 ∈ l) := by rw [shGetD hlt]; exact List.getElem_mem _
      have hs : Hid (((l.getD j 0 : Nat) : Int) ≠ k → ∀ c, c < j + 1 → ((l.getD c 0 : Nat) : Int) ≠ k) := fun h c hc => by
        by_cases e : c = j
        · rw [e]; exact h
        · exact HN.out c (by omega)
      have ha : Hid (((l.getD j 0 : Nat) : Int) = k → true = l.any fun j => (j : Int) == k) := fun e => by
        rw [eq_comm, List.any_eq_true]
        exact ⟨_, hm.out, by simpa using e⟩
      generalize ((l.getD j 0 : Nat) : Int) = x at *
      by_cases hx : x = k
      · have hxb : (x == k) = true := by simpa using hx
        have HA : Hid _ := ha.out hx
        clear hx ha hs hm
        go_wp2_with fail
        go_ret
        exact ⟨ret_bool HA.out, rfl⟩
      · have hxb : (x == k) = false := by simpa using hx
        have HS : Hid _ := hs.out hx
        clear hx ha hs hm
        generalize hln : l.length = n at *
        go_wp2_with fail
        exact ⟨⟨j + 1, by omega, by go_num, by first | trivial | rfl, HS⟩, by simp [intOf]; omega⟩
    · have i1 : ¬ (j : Int) < (l.length : Int) := by omega
      have HA : Hid (false = l.any fun j => (j : Int) == k) := by
        show false = _
        rw [eq_comm, List.any_eq_false]
        intro x hx
        obtain ⟨c, hc, e⟩ := List.mem_iff_getElem.1 hx
        have := HN.out c (by omega)
        rw [shGetD hc, e] at this
        simpa using this
      go_wp2_with fail
      go_ret
      exact ⟨ret_bool HA.out, rfl⟩

/-- What is left of a list without K. -/
def shLft (l : List Nat) (K : Int) : List Nat := l.filter fun k : Nat => decide ((k : Int) ≠ K)
theorem shLft_eq {l : List Nat} {K : Int} {j : Nat} (hj : j < l.length) (h : ((l.getD j 0 : Nat) : Int) = K) : shLft (l.take (j + 1)) K = shLft (l.take j) K := by
  rw [shGetD hj] at h
  rw [shLft, List.take_succ_eq_append_getElem hj, List.filter_append]
  simp [shLft]
  exact h
theorem shLft_ne {l : List Nat} {K : Int} {j : Nat} (hj : j < l.length) (h : ((l.getD j 0 : Nat) : Int) ≠ K) : shLft (l.take (j + 1)) K = shLft (l.take j) K ++ [l.getD j 0] := by
  rw [shGetD hj] at h ⊢
  rw [shLft, List.take_succ_eq_append_getElem hj, List.filter_append]
  simp [shLft]
  exact h
theorem shLft_len (l : List Nat) (K : Int) : (shLft l K).length ≤ l.length := List.length_filter_le _ _

/-- Those of the list l wait, and no others; they are told of t. -/
structure ShLk (m : Pg.Mp) (f : Nat → Bool) (t : Pg.Mp) (l : List Nat) : Prop where
  sub : l.Sublist (List.range 4)
  at' : ∀ k, k < 4 → f k = decide (k ∈ l)
  told : l ≠ [] → m = t
namespace ShLk
variable {m t x : Pg.Mp} {f : Nat → Bool} {l : List Nat}
theorem len (h : ShLk m f t l) : l.length ≤ 4 := by have := h.sub.length_le; simpa using this
theorem lt (h : ShLk m f t l) {k : Nat} (hk : k ∈ l) : k < 4 := by simpa using h.sub.subset hk
theorem over (h : ShLk m f t l) : Pg.shOver f = (l.length == 0) := by
  rw [Bool.eq_iff_iff, Pg.shOver_iff, beq_iff_eq, List.length_eq_zero_iff]
  constructor
  · intro hf
    rw [List.eq_nil_iff_forall_not_mem]
    intro k hk
    have h1 := h.at' k (h.lt hk)
    rw [hf k (h.lt hk)] at h1
    simp [hk] at h1
  · rintro rfl k hk
    rw [h.at' k hk]
    simp
theorem waits (h : ShLk m f t l) (k : Int) : Pg.shWaits f k = l.any fun j => (j : Int) == k := by
  rw [Bool.eq_iff_iff, List.any_eq_true]
  simp only [Pg.shWaits, Bool.and_eq_true, decide_eq_true_eq, beq_iff_eq]
  constructor
  · rintro ⟨h0, h4, hf⟩
    rw [h.at' _ (by omega)] at hf
    exact ⟨_, by simpa using hf, by omega⟩
  · rintro ⟨j, hj, rfl⟩
    have := h.lt hj
    refine ⟨by omega, by omega, ?_⟩
    rw [h.at' _ (by omega)]
    simpa using hj
theorem post (h : ShLk m f t []) {n : Nat} (hn : n ≤ 4) : ShLk x (Pg.shPost n f) x (List.range n) := by
  refine ⟨?_, fun k hk => ?_, fun _ => rfl⟩
  · exact List.range_sublist.2 hn
  · have := h.at' k hk
    simp [Pg.shPost, this]
/-- A core that waits looks after it. -/
theorem ack (h : ShLk m f t l) {k : Nat} (hk : k ∈ l) : ShLk m (Pg.shAck k f) t (shLft l k) ∧ (shLft l (k : Int)).length < l.length ∧ m = t := by
  refine ⟨⟨List.filter_sublist.trans h.sub, fun j hj => ?_, fun hl => h.told (by rintro rfl; simp [shLft] at hl)⟩, ?_, h.told (by rintro rfl; cases hk)⟩
  · simp only [Pg.shAck, shLft, List.mem_filter]
    by_cases e : j = k
    · simp [e]
    · rw [if_neg e, h.at' j hj, decide_eq_decide]
      simp
      omega
  · apply List.length_filter_lt_length_iff_exists.2
    exact ⟨k, hk, by simp⟩
theorem noack (h : ShLk m f t l) {k : Int} (hk : Pg.shWaits f k = false) : shLft l k = l := by
  rw [h.waits, List.any_eq_false] at hk
  rw [shLft, List.filter_eq_self]
  intro j hj
  simpa using hk j hj
end ShLk
end Go.Proofs.Ytjaipgdjhdjlnae
