/- Plain mathematics: SHA-256 on lists of bytes. No program is spoken of. -/
namespace Go.Proofs.YtegahpfmkepfmaaDoor

def rot (x n : Nat) : Nat := x / 2 ^ n ||| x * 2 ^ (32 - n) % 4294967296
def add32 (a b : Nat) : Nat := (a + b) % 4294967296
structure S8 where
  a : Nat
  b : Nat
  c : Nat
  d : Nat
  e : Nat
  f : Nat
  g : Nat
  h : Nat
deriving DecidableEq

def kN : List Nat := [0x428a2f98, 0x71374491, 0xb5c0fbcf, 0xe9b5dba5, 0x3956c25b, 0x59f111f1, 0x923f82a4, 0xab1c5ed5,
  0xd807aa98, 0x12835b01, 0x243185be, 0x550c7dc3, 0x72be5d74, 0x80deb1fe, 0x9bdc06a7, 0xc19bf174,
  0xe49b69c1, 0xefbe4786, 0x0fc19dc6, 0x240ca1cc, 0x2de92c6f, 0x4a7484aa, 0x5cb0a9dc, 0x76f988da,
  0x983e5152, 0xa831c66d, 0xb00327c8, 0xbf597fc7, 0xc6e00bf3, 0xd5a79147, 0x06ca6351, 0x14292967,
  0x27b70a85, 0x2e1b2138, 0x4d2c6dfc, 0x53380d13, 0x650a7354, 0x766a0abb, 0x81c2c92e, 0x92722c85,
  0xa2bfe8a1, 0xa81a664b, 0xc24b8b70, 0xc76c51a3, 0xd192e819, 0xd6990624, 0xf40e3585, 0x106aa070,
  0x19a4c116, 0x1e376c08, 0x2748774c, 0x34b0bcb5, 0x391c0cb3, 0x4ed8aa4a, 0x5b9cca4f, 0x682e6ff3,
  0x748f82ee, 0x78a5636f, 0x84c87814, 0x8cc70208, 0x90befffa, 0xa4506ceb, 0xbef9a3f7, 0xc67178f2]

def bs1 (e : Nat) : Nat := rot e 6 ^^^ rot e 11 ^^^ rot e 25
def bs0 (a : Nat) : Nat := rot a 2 ^^^ rot a 13 ^^^ rot a 22
def chf (e f g : Nat) : Nat := (e &&& f) ^^^ ((4294967295 - e) &&& g)
def maj (a b c : Nat) : Nat := (a &&& b) ^^^ (a &&& c) ^^^ (b &&& c)
def tt1 (k w : Nat) (s : S8) : Nat := add32 (add32 (add32 (add32 s.h (bs1 s.e)) (chf s.e s.f s.g)) k) w
def tt2 (s : S8) : Nat := add32 (bs0 s.a) (maj s.a s.b s.c)
def rnd (k w : Nat) (s : S8) : S8 := ⟨add32 (tt1 k w s) (tt2 s), s.a, s.b, s.c, add32 s.d (tt1 k w s), s.e, s.f, s.g⟩
def rn (ws : List Nat) (s : S8) : Nat → S8
  | 0 => s
  | i + 1 => rnd (kN.getD i 0) (ws.getD i 0) (rn ws s i)
def ss0 (x : Nat) : Nat := rot x 7 ^^^ rot x 18 ^^^ x / 8
def ss1 (x : Nat) : Nat := rot x 17 ^^^ rot x 19 ^^^ x / 1024
def word (b : List UInt8) (i : Nat) : Nat := (b.getD (4 * i) 0).toNat * 16777216 ||| (b.getD (4 * i + 1) 0).toNat * 65536 ||| (b.getD (4 * i + 2) 0).toNat * 256 ||| (b.getD (4 * i + 3) 0).toNat
def nxt (l : List Nat) (n : Nat) : Nat := add32 (add32 (add32 (l.getD (n - 16) 0) (ss0 (l.getD (n - 15) 0))) (l.getD (n - 7) 0)) (ss1 (l.getD (n - 2) 0))
def wk (b : List UInt8) : Nat → List Nat
  | 0 => []
  | n + 1 => wk b n ++ [if n < 16 then word b n else nxt (wk b n) n]
def plus (s t : S8) : S8 := ⟨add32 s.a t.a, add32 s.b t.b, add32 s.c t.c, add32 s.d t.d, add32 s.e t.e, add32 s.f t.f, add32 s.g t.g, add32 s.h t.h⟩
def comp (s : S8) (b : List UInt8) : S8 := plus s (rn (wk b 64) s 64)
def h0 : S8 := ⟨0x6a09e667, 0xbb67ae85, 0x3c6ef372, 0xa54ff53a, 0x510e527f, 0x9b05688c, 0x1f83d9ab, 0x5be0cd19⟩


/-- how many zero bytes are added -/
def pad (n : Nat) : Nat := (119 - n % 64) % 64
theorem pad_ok (n : Nat) : (n + 1 + pad n) % 64 = 56 := by unfold pad; omega
theorem pad_lt (n : Nat) : pad n < 64 := by unfold pad; omega
/-- the bytes that tell the length, the first i of them -/
def lens (n : Nat) : Nat → List UInt8
  | 0 => []
  | i + 1 => lens n i ++ [UInt8.ofNat (8 * n / 2 ^ (8 * (7 - i)) % 256)]
theorem lens_len (n i : Nat) : (lens n i).length = i := by
  induction i with
  | zero => rfl
  | succ i ih => rw [lens, List.length_append, ih]; rfl
/-- what is added to n bytes -/
def tail (n : Nat) : List UInt8 := [128] ++ List.replicate (pad n) 0 ++ lens n 8
def ext (l : List UInt8) : List UInt8 := l ++ [128] ++ List.replicate (pad l.length) 0 ++ lens l.length 8
theorem ext_tail (l : List UInt8) : ext l = l ++ tail l.length := by simp [ext, tail]
theorem ext_len (l : List UInt8) : (ext l).length = l.length + 9 + pad l.length := by simp [ext, lens_len]; omega
theorem ext_mod (l : List UInt8) : (ext l).length % 64 = 0 := by rw [ext_len]; have := pad_ok l.length; omega
/-- block i of a text -/
def blk (x : List UInt8) (i : Nat) : List UInt8 := (x.drop (64 * i)).take 64
/-- the words behind i blocks -/
def hs (x : List UInt8) : Nat → S8
  | 0 => h0
  | i + 1 => comp (hs x i) (blk x i)
def by4 (n : Nat) : List UInt8 := [UInt8.ofNat (n / 16777216), UInt8.ofNat (n / 65536 % 256), UInt8.ofNat (n / 256 % 256), UInt8.ofNat (n % 256)]
def lst (s : S8) : List Nat := [s.a, s.b, s.c, s.d, s.e, s.f, s.g, s.h]
def outB (s : S8) : List UInt8 := (lst s).flatMap by4
/-- SHA-256 -/
def sha (l : List UInt8) : List UInt8 := outB (hs (ext l) ((ext l).length / 64))
theorem outB_len (s : S8) : (outB s).length = 32 := by simp [outB, lst, by4]
theorem sha_len (l : List UInt8) : (sha l).length = 32 := outB_len _
set_option maxRecDepth 1000000 in
theorem t1 : sha [97,98,99] = [0xba,0x78,0x16,0xbf,0x8f,0x01,0xcf,0xea,0x41,0x41,0x40,0xde,0x5d,0xae,0x22,0x23,0xb0,0x03,0x61,0xa3,0x96,0x17,0x7a,0x9c,0xb4,0x10,0xff,0x61,0xf2,0x00,0x15,0xad] := by decide +kernel
theorem t2 : sha (1 :: (sha (1 :: (sha (0::[97]) ++ sha (0::[98]))) ++ sha (0::[99]))) ≠ sha (1 :: (sha (1 :: (sha (0::[97]) ++ sha (0::[98]))) ++ sha (0::[100]))) := by decide +kernel
end Go.Proofs.YtegahpfmkepfmaaDoor
