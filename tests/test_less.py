import itertools
import unittest

from eightbytes.refs import less, root
from tests.reference import parts, reference, scattered

LAST = 2 ** 32 - 1
GIVEN = {"address": 0x12345678, "upper": 0x9A, "lower": 0x56, "power": 4}


class Less(unittest.TestCase):
    def test_ordinary(self):
        self.assertEqual(less(reference(rights=0b1011, **GIVEN), 1, 0b0110), [1, reference(rights=0b0010, **GIVEN)])
        self.assertEqual(less(0xFF8F_00FF_0000_0000, 1, 256), [1, 0x800F_00FF_0000_0000])

    def test_no_rights(self):
        for rights in (0, 1, 256, 511):
            self.assertEqual(less(reference(rights=rights, **GIVEN), 1, 0), [1, reference(rights=0, **GIVEN)])

    def test_all_rights(self):
        for rights in (0, 1, 256, 511):
            v = reference(rights=rights, **GIVEN)
            self.assertEqual(less(v, 1, 511), [1, v])

    def test_each_bit_alone(self):
        for bit, other in itertools.product(range(9), range(9)):
            kept = 2 ** bit if bit == other else 0
            v = reference(rights=2 ** other, **GIVEN)
            self.assertEqual(less(v, 1, 2 ** bit), [1, reference(rights=kept, **GIVEN)])
        for bit in range(9):
            v = reference(rights=511, **GIVEN)
            self.assertEqual(less(v, 1, 2 ** bit), [1, reference(rights=2 ** bit, **GIVEN)])

    def test_no_right_comes_in(self):
        self.assertEqual(less(reference(rights=1, **GIVEN), 1, 510), [1, reference(rights=0, **GIVEN)])

    def test_only_the_lowest_nine_bits_count(self):
        v = reference(rights=511, **GIVEN)
        given = ((512, 0), (513, 1), (768, 256), (1023, 511), (2 ** 31, 0), (LAST, 511), (LAST - 511, 0),
                 (LAST - 1, 510))
        for rights, kept in given:
            self.assertEqual(less(v, 1, rights), [1, reference(rights=kept, **GIVEN)])
        for bit in range(9, 32):
            self.assertEqual(less(v, 1, 2 ** bit), [1, reference(rights=0, **GIVEN)])

    def test_not_good(self):
        self.assertEqual(less(reference(rights=7, **GIVEN), 0, 3), [0, reference(rights=3, **GIVEN)])
        self.assertEqual(less(reference(rights=7, **GIVEN), 0, 511), [0, reference(rights=7, **GIVEN)])

    def test_sealed_has_less_rights_still(self):
        for seal, good in itertools.product(range(1, 8), (0, 1)):
            v = reference(rights=0x1A5, seal=seal, **GIVEN)
            self.assertEqual(less(v, good, 0x10F), [0, reference(rights=0x105, seal=seal, **GIVEN)])
            self.assertEqual(less(v, good, 511), [0, v])

    def test_the_root(self):
        for rights in range(512):
            self.assertEqual(less(root(511)[1], 1, rights), root(rights))

    def test_scattered(self):
        for v in scattered(2000):
            for w, good in itertools.product((v, v & ~(7 << 52)), (0, 1)):
                address, upper, lower, power, seal, rights = parts(w)
                asked = (v * 31 + 7) % 2 ** 32
                number, lessened = less(w, good, asked)
                kept = sum(2 ** bit for bit in range(9) if rights >> bit & 1 and asked >> bit & 1)
                self.assertEqual(parts(lessened), (address, upper, lower, power, seal, kept))
                self.assertEqual(number, 1 if good == 1 and seal == 0 else 0)


if __name__ == "__main__":
    unittest.main()
