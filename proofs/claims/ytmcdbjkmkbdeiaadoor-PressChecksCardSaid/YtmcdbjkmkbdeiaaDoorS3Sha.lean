/-
  SHA-256 as a plain function on numbers below 2^32, in the shape in which the reference reckons it; two examples by the kernel.
-/
namespace Go.Proofs.YtmcdbjkmkbdeiaaDoor.S3.Sha
def w32 : Nat := 4294967296
def rotr (x n : Nat) : Nat := (x >>> n) ||| ((x <<< (32 - n)) % w32)
def s0 (x : Nat) : Nat := rotr x 7 ^^^ rotr x 18 ^^^ (x >>> 3)
def s1 (x : Nat) : Nat := rotr x 17 ^^^ rotr x 19 ^^^ (x >>> 10)
def b0 (x : Nat) : Nat := rotr x 2 ^^^ rotr x 13 ^^^ rotr x 22
def b1 (x : Nat) : Nat := rotr x 6 ^^^ rotr x 11 ^^^ rotr x 25
def ch (x y z : Nat) : Nat := (x &&& y) ^^^ ((w32 - 1 - x) &&& z)
def mj (x y z : Nat) : Nat := (x &&& y) ^^^ (x &&& z) ^^^ (y &&& z)
def ks : List Nat := [
  0x428a2f98, 0x71374491, 0xb5c0fbcf, 0xe9b5dba5, 0x3956c25b, 0x59f111f1, 0x923f82a4, 0xab1c5ed5,
  0xd807aa98, 0x12835b01, 0x243185be, 0x550c7dc3, 0x72be5d74, 0x80deb1fe, 0x9bdc06a7, 0xc19bf174,
  0xe49b69c1, 0xefbe4786, 0x0fc19dc6, 0x240ca1cc, 0x2de92c6f, 0x4a7484aa, 0x5cb0a9dc, 0x76f988da,
  0x983e5152, 0xa831c66d, 0xb00327c8, 0xbf597fc7, 0xc6e00bf3, 0xd5a79147, 0x06ca6351, 0x14292967,
  0x27b70a85, 0x2e1b2138, 0x4d2c6dfc, 0x53380d13, 0x650a7354, 0x766a0abb, 0x81c2c92e, 0x92722c85,
  0xa2bfe8a1, 0xa81a664b, 0xc24b8b70, 0xc76c51a3, 0xd192e819, 0xd6990624, 0xf40e3585, 0x106aa070,
  0x19a4c116, 0x1e376c08, 0x2748774c, 0x34b0bcb5, 0x391c0cb3, 0x4ed8aa4a, 0x5b9cca4f, 0x682e6ff3,
  0x748f82ee, 0x78a5636f, 0x84c87814, 0x8cc70208, 0x90befffa, 0xa4506ceb, 0xbef9a3f7, 0xc67178f2]
def h0 : List Nat := [0x6a09e667, 0xbb67ae85, 0x3c6ef372, 0xa54ff53a, 0x510e527f, 0x9b05688c, 0x1f83d9ab, 0x5be0cd19]
/-- The message's padding: one byte 128, zeros, the length in bits in eight bytes. -/
def zeros (n : Nat) : Nat := (119 - n % 64) % 64
def pad (l : List Nat) : List Nat := l ++ 128 :: (List.replicate (zeros l.length) 0 ++ (List.range 8).map fun i => 8 * l.length / 256 ^ (7 - i) % 256)
def word (b : List Nat) (i : Nat) : Nat := b.getD (4 * i) 0 * 16777216 + b.getD (4 * i + 1) 0 * 65536 + b.getD (4 * i + 2) 0 * 256 + b.getD (4 * i + 3) 0
def first (b : List Nat) (k : Nat) : List Nat := (List.range k).map (word b)
def more (w : List Nat) : Nat := (w.getD (w.length - 16) 0 + s0 (w.getD (w.length - 15) 0) + w.getD (w.length - 7) 0 + s1 (w.getD (w.length - 2) 0)) % w32
def sched (b : List Nat) : Nat → List Nat
  | 0 => first b 16
  | k + 1 => sched b k ++ [more (sched b k)]
def round (v : List Nat) (k w : Nat) : List Nat :=
  let t := (v.getD 7 0 + b1 (v.getD 4 0) + ch (v.getD 4 0) (v.getD 5 0) (v.getD 6 0) + k + w) % w32
  [(t + b0 (v.getD 0 0) + mj (v.getD 0 0) (v.getD 1 0) (v.getD 2 0)) % w32, v.getD 0 0, v.getD 1 0, v.getD 2 0, (v.getD 3 0 + t) % w32, v.getD 4 0, v.getD 5 0, v.getD 6 0]
def rounds (w : List Nat) (h : List Nat) : Nat → List Nat
  | 0 => h
  | i + 1 => round (rounds w h i) (ks.getD i 0) (w.getD i 0)
def block (h b : List Nat) : List Nat := List.zipWith (fun x y => (x + y) % w32) (rounds (sched b 48) h 64) h
def blocks (p : List Nat) : Nat → List Nat
  | 0 => h0
  | n + 1 => block (blocks p n) ((p.drop (64 * n)).take 64)
def out (h : List Nat) : List Nat := (List.range 32).map fun i => h.getD (i / 4) 0 / 256 ^ (3 - i % 4) % 256
def sha (l : List Nat) : List Nat := out (blocks (pad l) ((pad l).length / 64))
/-- The schedule by a list that grows at its head: what the kernel can reckon quickly. -/
def go (n : Nat) (w : List Nat) : List Nat := match n with
  | 0 => w
  | n + 1 => go n (w ++ [more w])
theorem go_succ (n : Nat) (w : List Nat) : go (n + 1) w = go n w ++ [more (go n w)] := by
  induction n generalizing w with
  | zero => rfl
  | succ n ih => exact ih (w ++ [more w])
theorem sched_go (b : List Nat) (n : Nat) : sched b n = go n (first b 16) := by
  induction n with
  | zero => rfl
  | succ n ih => rw [go_succ, sched, ih]
def run (w : List Nat) (n i : Nat) (v : List Nat) : List Nat := match n with
  | 0 => v
  | n + 1 => run w n (i + 1) (round v (ks.getD i 0) (w.getD i 0))
theorem run_succ (w : List Nat) (n i : Nat) (v : List Nat) : run w (n + 1) i v = round (run w n i v) (ks.getD (i + n) 0) (w.getD (i + n) 0) := by
  induction n generalizing i v with
  | zero => rfl
  | succ n ih =>
    show run w (n + 1) (i + 1) _ = _
    rw [ih (i + 1)]
    rw [show i + 1 + n = i + (n + 1) by omega]
    rfl
theorem rounds_run (w h : List Nat) (n : Nat) : rounds w h n = run w n 0 h := by
  induction n with
  | zero => rfl
  | succ n ih => rw [run_succ, rounds, ih, Nat.zero_add]
def fast (h b : List Nat) : List Nat := List.zipWith (fun x y => (x + y) % w32) (run (go 48 (first b 16)) 64 0 h) h
theorem block_fast (h b : List Nat) : block h b = fast h b := by unfold block fast; rw [rounds_run, sched_go]
theorem sha_one (l : List Nat) (h : (pad l).length = 64) : sha l = out (fast h0 (pad l)) := by
  unfold sha
  rw [h]
  show out (block h0 (((pad l).drop 0).take 64)) = _
  rw [block_fast, List.drop_zero, List.take_of_length_le (by omega)]
theorem sha_empty : out (fast h0 (pad [])) = [0xe3, 0xb0, 0xc4, 0x42, 0x98, 0xfc, 0x1c, 0x14, 0x9a, 0xfb, 0xf4, 0xc8, 0x99, 0x6f, 0xb9, 0x24, 0x27, 0xae, 0x41, 0xe4, 0x64, 0x9b, 0x93, 0x4c, 0xa4, 0x95, 0x99, 0x1b, 0x78, 0x52, 0xb8, 0x55] := by decide +kernel
theorem sha_abc : out (fast h0 (pad [97, 98, 99])) = [0xba, 0x78, 0x16, 0xbf, 0x8f, 0x01, 0xcf, 0xea, 0x41, 0x41, 0x40, 0xde, 0x5d, 0xae, 0x22, 0x23, 0xb0, 0x03, 0x61, 0xa3, 0x96, 0x17, 0x7a, 0x9c, 0xb4, 0x10, 0xff, 0x61, 0xf2, 0x00, 0x15, 0xad] := by decide +kernel
end Go.Proofs.YtmcdbjkmkbdeiaaDoor.S3.Sha
