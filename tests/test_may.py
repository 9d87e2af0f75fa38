import itertools
import unittest

from eightbytes.refs import may, root
from tests.reference import parts, reference, scattered, stretch

LAST = 2 ** 32 - 1
# Its stretch is from 296 up to 316.
V = reference(address=300, upper=60, lower=40, rights=0b1_0000_0110)
SEALED = reference(address=300, upper=60, lower=40, seal=2, rights=0b1_0000_0110)


class MayOrdinary(unittest.TestCase):
    def test_within_the_stretch(self):
        self.assertEqual(may(V, 1, 300, 4, 2), [0])
        self.assertEqual(may(V, 1, 296, 20, 0b110), [0])
        self.assertEqual(may(V, 1, 315, 1, 0b1_0000_0110), [0])

    def test_the_root(self):
        v = root(1)[1]
        self.assertEqual(may(v, 1, 0, 255 * 2 ** 24, 1), [0])
        self.assertEqual(may(v, 1, 0, 255 * 2 ** 24 + 1, 1), [-4])
        self.assertEqual(may(v, 1, 255 * 2 ** 24 - 1, 1, 1), [0])
        self.assertEqual(may(v, 1, 255 * 2 ** 24, 1, 1), [-4])
        self.assertEqual(may(v, 1, 0, LAST, 1), [-4])

    def test_the_address_of_v_does_not_count(self):
        for address in (296, 300, 316, 400, 551):
            self.assertEqual(may(reference(address, 60, 40), 1, 310, 2, 0), [0])


class MayRefusals(unittest.TestCase):
    def test_each_by_itself(self):
        self.assertEqual(may(V, 0, 300, 4, 2), [-1])
        self.assertEqual(may(SEALED, 1, 300, 4, 2), [-2])
        self.assertEqual(may(V, 1, 300, 4, 1), [-3])
        self.assertEqual(may(V, 1, 300, 17, 2), [-4])

    def test_the_first_is_told(self):
        # Whether it's good, whether it's sealed, whether it has the rights, whether the bytes lie in it.
        for good, v, rights, n in itertools.product((1, 0), (V, SEALED), (2, 1), (4, 17)):
            if good == 0:
                told = -1
            elif v == SEALED:
                told = -2
            elif rights == 1:
                told = -3
            elif n == 17:
                told = -4
            else:
                told = 0
            self.assertEqual(may(v, good, 300, n, rights), [told])

    def test_each_seal(self):
        for seal in range(1, 8):
            self.assertEqual(may(reference(300, 60, 40, 0, seal, 511), 1, 300, 4, 1), [-2])


class MayRights(unittest.TestCase):
    def test_no_rights_asked(self):
        for rights in (0, 1, 256, 511):
            self.assertEqual(may(reference(300, 60, 40, 0, 0, rights), 1, 300, 4, 0), [0])

    def test_each_bit(self):
        for bit in range(9):
            have = reference(300, 60, 40, 0, 0, 2 ** bit)
            lack = reference(300, 60, 40, 0, 0, 511 - 2 ** bit)
            self.assertEqual(may(have, 1, 300, 4, 2 ** bit), [0])
            self.assertEqual(may(lack, 1, 300, 4, 2 ** bit), [-3])
            self.assertEqual(may(lack, 1, 300, 4, 511 - 2 ** bit), [0])
            self.assertEqual(may(lack, 1, 300, 4, 511), [-3])

    def test_one_of_several_lacks(self):
        self.assertEqual(may(V, 1, 300, 4, 0b111), [-3])
        self.assertEqual(may(V, 1, 300, 4, 0b1_0000_1110), [-3])

    def test_only_the_lowest_nine_bits_count(self):
        none = reference(300, 60, 40)
        for rights, told in ((512, 0), (513, -3), (2 ** 31, 0), (LAST - 511, 0), (LAST, -3), (768, -3)):
            self.assertEqual(may(none, 1, 300, 4, rights), [told])
        for bit in range(9, 32):
            self.assertEqual(may(none, 1, 300, 4, 2 ** bit), [0])
        self.assertEqual(may(reference(300, 60, 40, 0, 0, 511), 1, 300, 4, LAST), [0])


class MayStretch(unittest.TestCase):
    def check(self, v, given):
        for at, n, told in given:
            with self.subTest(at=at, n=n):
                self.assertEqual(may(v, 1, at, n, 0), [told])

    def test_begin_and_end(self):
        self.check(V, (
            (295, 1, -4), (295, 2, -4), (295, 21, -4), (296, 1, 0), (296, 20, 0), (296, 21, -4), (297, 19, 0),
            (297, 20, -4), (315, 1, 0), (315, 2, -4), (316, 1, -4), (0, 1, -4), (LAST, 1, -4), (296, LAST, -4),
        ))

    def test_no_bytes(self):
        self.check(V, ((0, 0, -4), (295, 0, -4), (296, 0, 0), (300, 0, 0), (315, 0, 0), (316, 0, 0), (317, 0, -4),
                       (LAST, 0, -4)))

    def test_an_empty_stretch(self):
        v = reference(300, 40, 40)
        self.assertEqual(stretch(v), (296, 296))
        self.check(v, ((295, 0, -4), (296, 0, 0), (297, 0, -4), (295, 1, -4), (296, 1, -4), (297, 1, -4)))

    def test_upper_below_lower(self):
        v = reference(0x403, 0x08, 0xF0)
        self.check(v, ((0x3EF, 1, -4), (0x3F0, 24, 0), (0x3F0, 25, -4), (0x3FF, 2, 0), (0x407, 1, 0), (0x408, 1, -4),
                       (0x408, 0, 0), (0x409, 0, -4)))

    def test_a_beginning_below_0(self):
        v = reference(2, 5, 250)
        self.assertEqual(stretch(v), (-6, 5))
        self.check(v, ((0, 1, 0), (0, 5, 0), (0, 6, -4), (4, 1, 0), (5, 1, -4), (5, 0, 0), (6, 0, -4), (0, 0, 0),
                       (LAST, 1, -4), (LAST, 0, -4), (LAST - 5, 6, -4)))

    def test_wholly_below_0(self):
        v = reference(9, 20, 10)
        self.check(v, ((0, 0, -4), (0, 1, -4), (10, 1, -4), (10, 0, -4), (LAST, 0, -4), (2 ** 32 - 246, 1, -4)))

    def test_an_end_at_0(self):
        v = reference(2, 0, 250)
        self.assertEqual(stretch(v), (-6, 0))
        self.check(v, ((0, 0, 0), (0, 1, -4), (1, 0, -4), (LAST, 1, -4)))

    def test_an_end_at_2_to_the_32_and_behind(self):
        v = reference(LAST, 0, 0xF0)
        self.assertEqual(stretch(v), (2 ** 32 - 16, 2 ** 32))
        self.check(v, ((LAST, 1, 0), (LAST, 2, -4), (2 ** 32 - 16, 16, 0), (2 ** 32 - 16, 17, -4), (0, 0, -4)))
        v = reference(LAST, 4, 254, 15)
        self.assertEqual(stretch(v), (254 * 2 ** 24, 260 * 2 ** 24))
        self.check(v, ((LAST, 1, 0), (LAST, 2, 0), (LAST, 4 * 2 ** 24 + 1, 0), (LAST, 4 * 2 ** 24 + 2, -4),
                       (LAST, LAST, -4), (0, 1, -4)))

    def test_power_15(self):
        v = reference(5 * 2 ** 24, 6, 4, 15)
        self.check(v, ((4 * 2 ** 24 - 1, 1, -4), (4 * 2 ** 24, 2 ** 25, 0), (4 * 2 ** 24, 2 ** 25 + 1, -4),
                       (6 * 2 ** 24, 0, 0), (6 * 2 ** 24, 1, -4)))


class MayMany(unittest.TestCase):
    def check(self, v, good, at, n, rights):
        begin, end = stretch(v)
        told = 0
        if n == 0:
            if not (begin <= at < end or at == end):
                told = -4
        elif not (begin <= at < end and begin <= at + n - 1 < end):
            told = -4
        if any(rights >> bit & 1 and not parts(v)[5] >> bit & 1 for bit in range(9)):
            told = -3
        if parts(v)[4] != 0:
            told = -2
        if good == 0:
            told = -1
        self.assertEqual(may(v, good, at, n, rights), [told])

    def test_mixed_edges(self):
        places = (0, 1, 4, 5, 255, 256, 2 ** 24, LAST)
        marks = ((255, 0), (0, 255), (1, 0), (0, 0), (5, 250), (2, 1))
        for address, (upper, lower), power in itertools.product(places, marks, (0, 1, 15)):
            v = reference(address, upper, lower, power)
            for at, n in itertools.product(places, places):
                self.check(v, 1, at, n, 0)

    def test_scattered(self):
        for v in scattered(1000):
            begin, end = stretch(v)
            rights = parts(v)[5]
            for w in (v, v & ~(7 << 52)):
                ats = (begin - 1, begin, begin + 1, end, end + 1)
                for at, behind in itertools.product(ats, (end - 1, end, end + 1)):
                    if 0 <= at <= LAST and 0 <= behind - at <= LAST:
                        for good, asked in ((1, rights), (0, rights), (1, v >> 30), (1, rights | 512)):
                            self.check(w, good, at, behind - at, asked % 2 ** 32)


if __name__ == "__main__":
    unittest.main()
